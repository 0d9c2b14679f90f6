/-
  NtMk NtCabOk NtMkDone OpenCab
-/
import Derived.Test.YtieklnlbljejdaaGreatDoorG15
import Derived.Test.YtieklnlbljejdaaGreatDoorG45
import Derived.Test.YtieklnlbljejdaaGreatDoorG46
namespace Go.Proofs.YtieklnlbljejdaaGreatDoor
open Go.RowKit St
namespace Rt
def MkRt (W : World) (i : Nat) (ms : Nat → Int) (P lo hi : Nat) : Prop := ∃ z : Zt, z.R = P ∧ RtR W z (newRt ((i : Int) + 1) 3 ms) ∧ (∀ b, z.foot b → lo ≤ b ∧ b < hi) ∧ lo ≤ hi ∧ hi ≤ W.heap.size ∧ ∀ b, (b < lo ∨ (hi ≤ b ∧ b < W.heap.size)) → z.fm.no b
theorem MkRt.step {W W' : World} {i : Nat} {ms : Nat → Int} {P lo hi : Nat} (h : MkRt W i ms P lo hi) (hs : W.heap.size ≤ W'.heap.size) (hk : ∀ b, lo ≤ b → b < hi → W'.heap[b]? = W.heap[b]?) : MkRt W' i ms P lo hi := by
 obtain ⟨z, h1, h2, h3, h4, h5, h6⟩ := h
 refine ⟨z.plus fun b => W.heap.size ≤ b ∧ b < W'.heap.size, h1, h2.besides hs (fun b hb hc => ?_) _ (fun b e => e), h3, h4, Nat.le_trans h5 hs, fun b hb => ?_⟩
 · rcases hc with hc | hc
   · have : ¬ (b < lo ∨ (hi ≤ b ∧ b < W.heap.size)) := fun e => hc (h6 b e)
     exact hk b (by omega) (by omega)
   · have := h3 b (.inl hc)
     exact hk b this.1 this.2
 · show z.fm.no b ∨ _
   by_cases e : b < W.heap.size
   · exact .inl (h6 b (by omega))
   · exact .inr (by omega)
def cabC : List Cab → List Value
 | [] => []
 | c :: l => [.int .i64 c.a, .int .i64 c.pa, .int .i64 c.b, .int .i64 c.pb, .bool false, .slice none 0 0, .slice none 0 0] ++ cabC l
theorem cabC_app : ∀ (l m : List Cab), cabC (l ++ m) = cabC l ++ cabC m
 | [], _ => rfl
 | c :: l, m => by
   show _ ++ cabC (l ++ m) = _
   rw [cabC_app l m, ← List.append_assoc]
   rfl
theorem cabC_at : ∀ (l : List Cab) (j i : Nat) (hj : j < l.length), i < 7 → (cabC l)[j * 7 + i]? = [.int .i64 l[j].a, .int .i64 l[j].pa, .int .i64 l[j].b, .int .i64 l[j].pb, (.bool false : Value), .slice none 0 0, .slice none 0 0][i]?
 | c :: l, 0, i, _, hi => by
   show ([_, _, _, _, _, _, _] ++ cabC l)[0 * 7 + i]? = _
   rw [Nat.zero_mul, Nat.zero_add, List.getElem?_append_left (by simpa using hi)]
   rfl
 | c :: l, j + 1, i, hj, hi => by
   show ([_, _, _, _, _, _, _] ++ cabC l)[(j + 1) * 7 + i]? = _
   rw [List.getElem?_append_right (by simp; omega)]
   have e : (j + 1) * 7 + i - List.length [Value.int .i64 c.a, .int .i64 c.pa, .int .i64 c.b, .int .i64 c.pb, .bool false, .slice none 0 0, .slice none 0 0] = j * 7 + i := by simp; omega
   rw [e]
   exact cabC_at l j i (by simpa using hj) hi
theorem cabC_one (l : List Cab) : ∀ u ∈ cabC l, u.oneCell' = true := by
 induction l with
 | nil => intro u hu; simp [cabC] at hu
 | cons c l ih =>
   intro u hu
   have hu' : u ∈ [Value.int .i64 c.a, .int .i64 c.pa, .int .i64 c.b, .int .i64 c.pb, .bool false, .slice none 0 0, .slice none 0 0] ++ cabC l := hu
   rcases List.mem_append.1 hu' with h | h
   · simp at h
     rcases h with rfl | rfl | rfl | rfl | rfl | rfl <;> rfl
   · exact ih u h
def ptrsV (P : Nat → Nat) (q : Nat) : List Value := (List.range q).map fun i => .pointer (some ⟨P i, 0, none⟩)
theorem ptrsV_succ (P : Nat → Nat) (q : Nat) : ptrsV P (q + 1) = ptrsV P q ++ [.pointer (some ⟨P q, 0, none⟩)] := by simp [ptrsV, List.range_succ]
theorem ptrsV_congr {P P' : Nat → Nat} {q : Nat} (h : ∀ i, i < q → P i = P' i) : ptrsV P q = ptrsV P' q := by
 unfold ptrsV
 refine List.map_congr_left fun i hi => ?_
 rw [h i (List.mem_range.1 hi)]
theorem ptrsV_at (P : Nat → Nat) {q i : Nat} (h : i < q) : (ptrsV P q)[i]? = some (.pointer (some ⟨P i, 0, none⟩)) := by simp [ptrsV, h]
def nilRow (m : Nat) : Array Value := Array.replicate m (.slice none 0 0)
structure MkN (w W : World) (N gI bM m : Nat) (E : List (Int × Int × Int)) (ms : Nat → Nat → Int) (q j : Nat) (L : List Cab) (v v2 : Value) (P lo hi : Nat → Nat) : Prop where
 bel : Below w.heap.size w W
 nb : Blk W N #[v, .slice (some ⟨gI, 0, none⟩) m m, .map (some bM), v2] 190
 gi : Blk W gI (nilRow m) 53
 mp : EMap W bM E
 row : Row W 1 v q (ptrsV P q)
 row2 : Row W 7 v2 j (cabC (L.take j))
 ne : N ≠ gI ∧ N ≠ bM ∧ gI ≠ bM ∧ w.heap.size ≤ N ∧ w.heap.size ≤ gI ∧ w.heap.size ≤ bM
 fv : ∀ k, v.ownBlock = some k → w.heap.size ≤ k ∧ k ≠ N ∧ k ≠ gI ∧ k ≠ bM
 fv2 : ∀ k, v2.ownBlock = some k → w.heap.size ≤ k ∧ k ≠ N ∧ k ≠ gI ∧ k ≠ bM ∧ v.ownBlock ≠ some k
 rts : ∀ i, i < q → MkRt W i (ms i) (P i) (lo i) (hi i)
 lw : ∀ i, i < q → w.heap.size ≤ lo i
 sep : ∀ i k, i < k → k < q → hi i ≤ lo k
 out : ∀ i, i < q → ∀ k, (k = N ∨ k = gI ∨ k = bM ∨ v.ownBlock = some k ∨ v2.ownBlock = some k) → k < lo i ∨ hi i ≤ k
section
variable {w W W' : World} {N gI bM m : Nat} {E : List (Int × Int × Int)} {ms : Nat → Nat → Int} {q j : Nat} {L : List Cab} {v v2 : Value} {P lo hi : Nat → Nat}
theorem MkN.Nlt (h : MkN w W N gI bM m E ms q j L v v2 P lo hi) : N < W.heap.size := h.nb.lt
theorem MkN.bMlt (h : MkN w W N gI bM m E ms q j L v v2 P lo hi) : bM < W.heap.size := by
 obtain ⟨es, clock, h1, _⟩ := h.mp
 exact (Array.getElem?_eq_some_iff.1 h1).1
theorem MkN.below (h : MkN w W N gI bM m E ms q j L v v2 P lo hi) (hb : Below W.heap.size W W') : MkN w W' N gI bM m E ms q j L v v2 P lo hi :=
 ⟨below_chain h.bel hb, h.nb.below hb, h.gi.below hb, h.mp.keep (hb.block bM h.bMlt), h.row.below hb, h.row2.below hb, h.ne, h.fv, h.fv2, fun i hi' => (h.rts i hi').step hb.size (fun b _ h2 => hb.block b (by
  obtain ⟨_, _, _, _, _, h5, _⟩ := h.rts i hi'
  omega)), h.lw, h.sep, h.out⟩
theorem MkN.router (h : MkN w W N gI bM m E ms q j L v v2 P lo hi) {W1 W2 : World} {z : Zt} (hz : RtR W1 z (newRt ((q : Int) + 1) 3 (ms q))) (hb : Below W.heap.size W W1) (hzf : ∀ b, z.foot b → W.heap.size ≤ b) (hzX : ∀ b, b < W.heap.size → z.fm.no b)
 {o : Obj} {v' : Value} (hr : Row W2 1 v' (q + 1) (ptrsV P q ++ [.pointer (some ⟨z.R, 0, none⟩)])) (hg : (W1.alloc o).grownBy W2 v.ownBlock) (hv : ∀ k, v'.ownBlock = some k → v.ownBlock = some k ∨ W1.heap.size ≤ k) :
 MkN w (W2.setCell ⟨N, 0, none⟩ v') N gI bM m E ms (q + 1) j L v' v2 (upN P q z.R) (upN lo q W.heap.size) (upN hi q W1.heap.size) := by
 have hsz1 : W1.heap.size ≤ W2.heap.size := Nat.le_trans (by simp) hg.size
 have hbl2 : ∀ b, b < W1.heap.size → v.ownBlock ≠ some b → W2.heap[b]? = W1.heap[b]? := fun b hb' hn => (hg.block b (by simp; omega) (fun e => hn e.symm)).trans (Below.heap_alloc W1 o b hb')
 have hblk : ∀ b, b < W1.heap.size → v.ownBlock ≠ some b → b ≠ N → (W2.setCell ⟨N, 0, none⟩ v').heap[b]? = W1.heap[b]? := fun b hb' hn hN => (Below.heap_setCell _ _ _ b hN).trans (hbl2 b hb' hn)
 have h1 := h.below hb
 have hNv : v.ownBlock ≠ some N := fun e => (h.fv N e).2.1 rfl
 have hv'N : ∀ k, v'.ownBlock = some k → k ≠ N := fun k e e1 => by
  rcases hv k e with h2 | h2
  · exact (h.fv k h2).2.1 e1
  · have := h1.Nlt; omega
 have hbel2 : Below w.heap.size w W2 := by
  have h2 := (h1.bel.alloc h1.bel.size o).grown hg (by simp; have := h1.bel.size; omega) (fun k e => (h.fv k e).1)
  exact h2
 have hWle := h.bel.size
 have hlo : ∀ i, i < q → lo i ≤ hi i ∧ hi i ≤ W.heap.size := fun i hi' => by
  obtain ⟨_, _, _, _, h4, h5, _⟩ := h.rts i hi'
  exact ⟨h4, h5⟩
 have hz1 : RtR (W2.setCell ⟨N, 0, none⟩ v') (z.plus fun b => W1.heap.size ≤ b ∧ b < (W2.setCell ⟨N, 0, none⟩ v').heap.size) (newRt ((q : Int) + 1) 3 (ms q)) := by
  refine hz.besides (by simpa using hsz1) (fun b hb' hc => ?_) _ (fun b e => e)
  have hbW : W.heap.size ≤ b := by
   rcases hc with hc | hc
   · exact Nat.le_of_not_lt (fun e => hc (hzX b e))
   · exact hzf b (.inl hc)
  exact hblk b hb' (fun e => by have := h.row.lt b e; omega) (fun e => by have := h.Nlt; omega)
 refine ⟨hbel2.setCell (by show w.heap.size ≤ N; exact h.ne.2.2.2.1) _, ?_, h1.gi.keep (hblk gI h1.gi.lt (fun e => (h.fv gI e).2.2.1 rfl) (fun e => h.ne.1 e.symm)), h1.mp.keep (hblk bM h1.bMlt (fun e => (h.fv bM e).2.2.2 rfl) (fun e => h.ne.2.1 e.symm)), ?_, h1.row2.keep (by simpa using hsz1) (fun k e => hblk k (h1.row2.lt k e) (h.fv2 k e).2.2.2.2 (h.fv2 k e).2.1), h.ne, fun k e => ?_, fun k e => ?_, fun i hi' => ?_, fun i hi' => ?_, fun i k hik hk => ?_, fun i hi' k hk => ?_⟩
 · have h2 : Blk W2 N #[v, .slice (some ⟨gI, 0, none⟩) m m, .map (some bM), v2] 190 := h1.nb.keep (hbl2 N h1.Nlt hNv)
   exact h2.set 0 v'
 · rw [ptrsV_succ, upN_same, ptrsV_congr (P' := P) (fun i hi' => upN_other _ _ (by omega))]
   exact hr.keep (by simp) (fun k e => Below.heap_setCell _ _ _ k (hv'N k e))
 · rcases hv k e with h2 | h2
   · exact h.fv k h2
   · have a1 := h1.Nlt
     have a2 := h1.gi.lt
     have a3 := h1.bMlt
     have a4 := h1.bel.size
     omega
 · refine ⟨(h.fv2 k e).1, (h.fv2 k e).2.1, (h.fv2 k e).2.2.1, (h.fv2 k e).2.2.2.1, fun e1 => ?_⟩
   rcases hv k e1 with h2 | h2
   · exact (h.fv2 k e).2.2.2.2 h2
   · have := h1.row2.lt k e; omega
 · by_cases ei : i = q
   · subst ei
     rw [upN_same, upN_same, upN_same]
     refine ⟨z.plus fun b => W1.heap.size ≤ b ∧ b < (W2.setCell ⟨N, 0, none⟩ v').heap.size, rfl, hz1, fun b hb' => ⟨hzf b hb', hz.footLt rfl hb'⟩, hb.size, by simpa using hsz1, fun b hb' => ?_⟩
     show z.fm.no b ∨ _
     rcases hb' with e | e
     · exact .inl (hzX b e)
     · exact .inr e
   · rw [upN_other _ _ ei, upN_other _ _ ei, upN_other _ _ ei]
     have hiq : i < q := by omega
     refine (h1.rts i hiq).step (by simpa using hsz1) (fun b b1 b2 => ?_)
     have b3 := (hlo i hiq).2
     have hs := hb.size
     refine hblk b (by omega) (fun e => ?_) (fun e => ?_)
     · have := h.out i hiq b (.inr (.inr (.inr (.inl e)))); omega
     · have := h.out i hiq b (.inl e); omega
 · by_cases ei : i = q
   · subst ei; rw [upN_same]; exact h.bel.size
   · rw [upN_other _ _ ei]; exact h.lw i (by omega)
 · by_cases ek : k = q
   · subst ek
     rw [upN_other _ _ (by omega), upN_same]
     exact (hlo i hik).2
   · rw [upN_other _ _ (by omega), upN_other _ _ ek]
     exact h.sep i k hik (by omega)
 · have hold : (k = N ∨ k = gI ∨ k = bM ∨ v.ownBlock = some k ∨ v2.ownBlock = some k) ∨ W1.heap.size ≤ k := by
    rcases hk with e | e | e | e | e
    · exact .inl (.inl e)
    · exact .inl (.inr (.inl e))
    · exact .inl (.inr (.inr (.inl e)))
    · exact (hv k e).imp_left (fun e => .inr (.inr (.inr (.inl e))))
    · exact .inl (.inr (.inr (.inr (.inr e))))
   by_cases ei : i = q
   · subst ei
     rw [upN_same, upN_same]
     rcases hold with e | e
     · left
       rcases e with e | e | e | e | e
       · have := h.Nlt; omega
       · have := h.gi.lt; omega
       · have := h.bMlt; omega
       · exact h.row.lt k e
       · exact h.row2.lt k e
     · exact .inr e
   · rw [upN_other _ _ ei, upN_other _ _ ei]
     rcases hold with e | e
     · exact h.out i (by omega) k e
     · have := (hlo i (by omega)).2
       have hs := hb.size
       exact .inr (by omega)
theorem MkN.cable (h : MkN w W N gI bM m E ms q j L v v2 P lo hi) {W2 : World} {v' : Value} {c : Cab} (ht : L.take (j + 1) = L.take j ++ [c]) (hr : Row W2 7 v' (j + 1) (cabC (L.take j) ++ cabC [c])) (hg : W.grownBy W2 v2.ownBlock) (hv : ∀ k, v'.ownBlock = some k → v2.ownBlock = some k ∨ W.heap.size ≤ k) :
 MkN w (W2.setCell ⟨N, 3, none⟩ v') N gI bM m E ms q (j + 1) L v v' P lo hi := by
 have hbl2 : ∀ b, b < W.heap.size → v2.ownBlock ≠ some b → W2.heap[b]? = W.heap[b]? := fun b hb' hn => hg.block b hb' (fun e => hn e.symm)
 have hblk : ∀ b, b < W.heap.size → v2.ownBlock ≠ some b → b ≠ N → (W2.setCell ⟨N, 3, none⟩ v').heap[b]? = W.heap[b]? := fun b hb' hn hN => (Below.heap_setCell _ _ _ b hN).trans (hbl2 b hb' hn)
 have hNv : v2.ownBlock ≠ some N := fun e => (h.fv2 N e).2.1 rfl
 have hv'N : ∀ k, v'.ownBlock = some k → k ≠ N := fun k e e1 => by
  rcases hv k e with h2 | h2
  · exact (h.fv2 k h2).2.1 e1
  · have := h.Nlt; omega
 have hbel2 : Below w.heap.size w W2 := h.bel.grown hg h.bel.size (fun k e => (h.fv2 k e).1)
 refine ⟨hbel2.setCell (by show w.heap.size ≤ N; exact h.ne.2.2.2.1) _, ?_, h.gi.keep (hblk gI h.gi.lt (fun e => (h.fv2 gI e).2.2.1 rfl) (fun e => h.ne.1 e.symm)), h.mp.keep (hblk bM h.bMlt (fun e => (h.fv2 bM e).2.2.2.1 rfl) (fun e => h.ne.2.1 e.symm)), h.row.keep (by simpa using hg.size) (fun k e => hblk k (h.row.lt k e) (fun e1 => (h.fv2 k e1).2.2.2.2 e) (h.fv k e).2.1), ?_, h.ne, h.fv, fun k e => ?_, fun i hi' => ?_, h.lw, h.sep, fun i hi' k hk => ?_⟩
 · have h2 : Blk W2 N #[v, .slice (some ⟨gI, 0, none⟩) m m, .map (some bM), v2] 190 := h.nb.keep (hbl2 N h.Nlt hNv)
   exact h2.set 3 v'
 · rw [ht, cabC_app]
   exact hr.keep (by simp) (fun k e => Below.heap_setCell _ _ _ k (hv'N k e))
 · rcases hv k e with h2 | h2
   · exact h.fv2 k h2
   · have a1 := h.Nlt
     have a2 := h.gi.lt
     have a3 := h.bMlt
     have a4 := h.bel.size
     refine ⟨by omega, by omega, by omega, by omega, fun e1 => ?_⟩
     have := h.row.lt k e1; omega
 · obtain ⟨_, _, _, _, h4, h5, _⟩ := h.rts i hi'
   refine (h.rts i hi').step (by simpa using hg.size) (fun b b1 b2 => hblk b (by omega) (fun e => ?_) (fun e => ?_))
   · have := h.out i hi' b (.inr (.inr (.inr (.inr e)))); omega
   · have := h.out i hi' b (.inl e); omega
 · obtain ⟨_, _, _, _, h4, h5, _⟩ := h.rts i hi'
   rcases hk with e | e | e | e | e
   · exact h.out i hi' k (.inl e)
   · exact h.out i hi' k (.inr (.inl e))
   · exact h.out i hi' k (.inr (.inr (.inl e)))
   · exact h.out i hi' k (.inr (.inr (.inr (.inl e))))
   · rcases hv k e with h2 | h2
     · exact h.out i hi' k (.inr (.inr (.inr (.inr h2))))
     · exact .inr (by omega)
end
end Rt
end Go.Proofs.YtieklnlbljejdaaGreatDoor

namespace Go.Proofs.YtieklnlbljejdaaGreatDoor
open Go.RowKit St
namespace Rt
def keysE (E : List (Int × Int × Int)) : List (Int × Int) := E.map fun x => (x.1, x.2.1)
theorem lookE_key : ∀ {E : List (Int × Int × Int)} {r p : Int}, (lookE E r p).isSome = true ↔ (r, p) ∈ keysE E
 | [], r, p => by simp [lookE, keysE]
 | x :: E, r, p => by
   unfold lookE
   have ih := lookE_key (E := E) (r := r) (p := p)
   split
   · rename_i h
     simp [keysE, h.1, h.2]
   · rename_i h
     rw [ih]
     constructor
     · intro h1; exact List.mem_cons_of_mem _ h1
     · intro h1
       have h2 : (r, p) = (x.1, x.2.1) ∨ (r, p) ∈ keysE E := by
        have : (r, p) ∈ (x.1, x.2.1) :: keysE E := h1
        simpa using this
       rcases h2 with h2 | h2
       · injection h2 with h3 h4
         exact absurd ⟨h3.symm, h4.symm⟩ h
       · exact h2
theorem cabF1_ok {many : Int} {c : Cab} {E : List (Int × Int × Int)} (h : cabF1 many c E = 0) : (1 ≤ c.m ∧ c.m ≤ 20) ∧ endOk many c.a c.pa = true ∧ endOk many c.b c.pb = true ∧ (c.a, c.pa) ∉ keysE E ∧ (c.b, c.pb) ∉ keysE (E ++ [(c.a, c.pa, c.m)]) := by
 unfold cabF1 at h
 split at h
 · simp at h
 · split at h
   · simp at h
   · split at h
     · simp at h
     · split at h
       · simp at h
       · split at h
         · simp at h
         · rename_i h1 h2 h3 h4 h5
           refine ⟨by omega, by simpa using h2, by simpa using h4, fun e => h3 (lookE_key.2 e), fun e => h5 (lookE_key.2 e)⟩
theorem cabF_ok {many : Int} : ∀ (L : List Cab) (E : List (Int × Int × Int)), cabF many L E = 0 → (keysE E).Nodup → (∀ c ∈ L, (1 ≤ c.m ∧ c.m ≤ 20) ∧ endOk many c.a c.pa = true ∧ endOk many c.b c.pb = true) ∧ (keysE (E ++ cabEs L)).Nodup
 | [], E, _, hn => ⟨fun c hc => by simp at hc, by simpa [cabEs] using hn⟩
 | c :: L, E, h, hn => by
   rw [cabF_cons] at h
   have h1 : cabF1 many c E = 0 := by
    rcases Nat.eq_zero_or_pos (cabF1 many c E) with e | e
    · exact e
    · rw [if_pos (by omega)] at h; omega
   rw [h1, if_neg (by simp)] at h
   obtain ⟨g1, g2, g3, g4, g5⟩ := cabF1_ok h1
   have hn2 : (keysE (E ++ [(c.a, c.pa, c.m), (c.b, c.pb, c.m)])).Nodup := by
    have e1 : keysE (E ++ [(c.a, c.pa, c.m), (c.b, c.pb, c.m)]) = (keysE E ++ [(c.a, c.pa)]) ++ [(c.b, c.pb)] := by simp [keysE]
    have e2 : keysE (E ++ [(c.a, c.pa, c.m)]) = keysE E ++ [(c.a, c.pa)] := by simp [keysE]
    rw [e1]
    rw [e2] at g5
    refine List.nodup_append.2 ⟨List.nodup_append.2 ⟨hn, by simp, ?_⟩, by simp, ?_⟩
    · intro x hx y hy e
      have : y = (c.a, c.pa) := by simpa using hy
      exact g4 (by rw [← this, ← e]; exact hx)
    · intro x hx y hy e
      have : y = (c.b, c.pb) := by simpa using hy
      exact g5 (by rw [← this, ← e]; exact hx)
   obtain ⟨h2, h3⟩ := cabF_ok L _ h hn2
   refine ⟨fun x hx => ?_, ?_⟩
   · rcases List.mem_cons.1 hx with rfl | hx
     · exact ⟨g1, g2, g3⟩
     · exact h2 x hx
   · have e : E ++ cabEs (c :: L) = E ++ [(c.a, c.pa, c.m), (c.b, c.pb, c.m)] ++ cabEs L := by simp [cabEs]
     rw [e]
     exact h3
structure CabsOk (many : Int) (L : List Cab) : Prop where
 m : 1 ≤ many ∧ many ≤ 6
 l : L.length ≤ 9
 c : ∀ c ∈ L, (1 ≤ c.m ∧ c.m ≤ 20) ∧ endOk many c.a c.pa = true ∧ endOk many c.b c.pb = true
 nd : (keysE (cabEs L)).Nodup
theorem netF_ok {many : Int} {L : List Cab} (h : netF many L = 0) : CabsOk many L := by
 unfold netF at h
 split at h
 · simp at h
 · split at h
   · simp at h
   · obtain ⟨h1, h2⟩ := cabF_ok L [] h (by simp [keysE])
     exact ⟨by omega, by omega, h1, by simpa using h2⟩
theorem endOk_iff {many r p : Int} (h : endOk many r p = true) : 1 ≤ r ∧ r ≤ many ∧ 0 ≤ p ∧ p < 3 := by
 unfold endOk at h
 simp only [Bool.and_eq_true, decide_eq_true_eq] at h
 omega
theorem cabEs_mem {L : List Cab} {x : Int × Int × Int} (h : x ∈ cabEs L) : ∃ c ∈ L, x = (c.a, c.pa, c.m) ∨ x = (c.b, c.pb, c.m) := by
 unfold cabEs at h
 obtain ⟨c, hc, h1⟩ := List.mem_flatMap.1 h
 exact ⟨c, hc, by simpa using h1⟩
theorem CabsOk.ms {many : Int} {L : List Cab} (h : CabsOk many L) (i p : Nat) : 1 ≤ msOf L i p ∧ msOf L i p ≤ 20 := by
 unfold msOf
 cases hl : lookE (cabEs L) ((i : Int) + 1) (p : Int) with
 | none => exact ⟨by decide, by decide⟩
 | some m =>
   obtain ⟨c, hc, h1⟩ := cabEs_mem (lookE_mem hl)
   have h2 := (h.c c hc).1
   show 1 ≤ m ∧ m ≤ 20
   rcases h1 with h1 | h1
   · injection h1 with _ h3
     injection h3 with _ h4
     rw [h4]; exact h2
   · injection h1 with _ h3
     injection h3 with _ h4
     rw [h4]; exact h2
theorem CabsOk.tells {many : Int} {L : List Cab} (h : CabsOk many L) (m : Nat) (hE : EOk (cabEs L)) : TellsM (cabEs L) m (msOf L) := ⟨fun i p _ _ => ⟨rfl, h.ms i p⟩, hE⟩
theorem cabAt_e (L : List Cab) (c d : Nat) (hc : c < L.length) : (cabAt L c).e d = if d = 0 then ((L[c].a - 1).toNat, L[c].pa.toNat) else ((L[c].b - 1).toNat, L[c].pb.toNat) := by
 unfold cabAt Cab.at
 simp only [List.getD_eq_getElem?_getD, List.getElem?_eq_getElem hc, Option.getD_some]
theorem CabsOk.en {many : Int} {L : List Cab} (h : CabsOk many L) (c d : Nat) (hc : c < L.length) : ((cabAt L c).e d).1 < many.toNat ∧ ((cabAt L c).e d).2 < 3 := by
 rw [cabAt_e L c d hc]
 obtain ⟨_, h1, h2⟩ := h.c L[c] (List.getElem_mem hc)
 have e1 := endOk_iff h1
 have e2 := endOk_iff h2
 split
 · simp only; omega
 · simp only; omega
theorem cabEs_at : ∀ (L : List Cab) (c d : Nat) (hc : c < L.length), d < 2 → (keysE (cabEs L))[2 * c + d]? = some (if d = 0 then (L[c].a, L[c].pa) else (L[c].b, L[c].pb))
 | x :: L, 0, d, _, hd => by
   have : d = 0 ∨ d = 1 := by omega
   rcases this with rfl | rfl <;> rfl
 | x :: L, c + 1, d, hc, hd => by
   have e : keysE (cabEs (x :: L)) = [(x.a, x.pa), (x.b, x.pb)] ++ keysE (cabEs L) := by simp [keysE, cabEs]
   rw [e, List.getElem?_append_right (by simp; omega)]
   have e2 : 2 * (c + 1) + d - List.length [(x.a, x.pa), (x.b, x.pb)] = 2 * c + d := by simp; omega
   rw [e2]
   exact cabEs_at L c d (by simpa using hc) hd
theorem nodup_inj {α : Type} {l : List α} (h : l.Nodup) {i j : Nat} (hi : i < l.length) (hj : j < l.length) (e : l[i] = l[j]) : i = j := by
 have hp := List.pairwise_iff_getElem.1 h
 rcases Nat.lt_trichotomy i j with h1 | h1 | h1
 · exact absurd e (hp i j hi hj h1)
 · exact h1
 · exact absurd e.symm (hp j i hj hi h1)
theorem CabsOk.ds {many : Int} {L : List Cab} (h : CabsOk many L) (c d c' d' : Nat) (hc : c < L.length) (hd : d < 2) (hc' : c' < L.length) (hd' : d' < 2) (he : (cabAt L c).e d = (cabAt L c').e d') : c = c' ∧ d = d' := by
 have k1 := cabEs_at L c d hc hd
 have k2 := cabEs_at L c' d' hc' hd'
 rw [cabAt_e L c d hc, cabAt_e L c' d' hc'] at he
 obtain ⟨_, a1, a2⟩ := h.c L[c] (List.getElem_mem hc)
 obtain ⟨_, b1, b2⟩ := h.c L[c'] (List.getElem_mem hc')
 have e1 := endOk_iff a1
 have e2 := endOk_iff a2
 have e3 := endOk_iff b1
 have e4 := endOk_iff b2
 have hkey : (if d = 0 then (L[c].a, L[c].pa) else (L[c].b, L[c].pb)) = (if d' = 0 then (L[c'].a, L[c'].pa) else (L[c'].b, L[c'].pb)) := by
  by_cases h0 : d = 0
  · by_cases h1 : d' = 0
    · rw [if_pos h0, if_pos h1] at he ⊢
      injection he with p1 p2
      rw [show L[c].a = L[c'].a by omega, show L[c].pa = L[c'].pa by omega]
    · rw [if_pos h0, if_neg h1] at he ⊢
      injection he with p1 p2
      rw [show L[c].a = L[c'].b by omega, show L[c].pa = L[c'].pb by omega]
  · by_cases h1 : d' = 0
    · rw [if_neg h0, if_pos h1] at he ⊢
      injection he with p1 p2
      rw [show L[c].b = L[c'].a by omega, show L[c].pb = L[c'].pa by omega]
    · rw [if_neg h0, if_neg h1] at he ⊢
      injection he with p1 p2
      rw [show L[c].b = L[c'].b by omega, show L[c].pb = L[c'].pb by omega]
 rw [hkey] at k1
 obtain ⟨l1, v1⟩ := List.getElem?_eq_some_iff.1 k1
 obtain ⟨l2, v2⟩ := List.getElem?_eq_some_iff.1 k2
 have := nodup_inj h.nd l1 l2 (v1.trans v2.symm)
 omega
theorem newNt_ok {many : Int} {L : List Cab} (h : CabsOk many L) : NOk (newNt many.toNat L) 0 0 := by
 have hm := h.m
 refine ⟨by show 1 ≤ many.toNat; omega, by show many.toNat ≤ 6; omega, h.l, fun c d hc _ => h.en c d hc, fun c d c' d' hc hd hc' hd' e => h.ds c d c' d' hc hd hc' hd' e, fun i p _ _ => h.ms i p, fun i _ => ⟨rfl, rfl⟩, fun i hi => ?_, fun _ _ => ⟨Int.le_refl _, Int.le_refl _⟩, fun _ _ _ _ => Nat.zero_le _, fun _ _ => Nat.le_refl _, fun i p _ _ _ => newRt_idle _ _ p, fun _ _ => ⟨Nat.le_refl _, fun _ _ => Nat.zero_le _⟩⟩
 have hi' : i < many.toNat := hi
 exact newRt_ok (by omega) (fun p _ => h.ms i p)
end Rt
end Go.Proofs.YtieklnlbljejdaaGreatDoor

namespace Go.Proofs.YtieklnlbljejdaaGreatDoor
open Go.RowKit St
namespace Rt
theorem Row.spare {w : World} {sz g n n' cap : Nat} {xs : List Value} (h : Row w sz (.slice (some ⟨g, 0, none⟩) n' cap) n xs) (j : Nat) (hj : j < n * sz) : w.frozen? ⟨g, j, none⟩ = false := by
 rcases h.2 with ⟨e, _⟩ | ⟨g', cap', e, _, h1, _, _, h4⟩
 · simp at e
 · simp at e
   obtain ⟨rfl, rfl, rfl⟩ := e
   exact (h4 j (Nat.lt_of_lt_of_le hj (Nat.mul_le_mul_right sz h1))).2
def rowV (g : Option Nat) (n c : Nat) : Value := match g with | none => .slice none 0 0 | some g => .slice (some ⟨g, 0, none⟩) n c
theorem MkN.done {w W : World} {N gI bM : Nat} {many : Int} {L : List Cab} {v v2 : Value} {P lo hi : Nat → Nat} (hok : CabsOk many L) (hE : EOk (cabEs L)) (h : MkN w W N gI bM many.toNat (cabEs L) (msOf L) many.toNat L.length L v v2 P lo hi) (hw : 0 < w.heap.size) (X : Nat → Prop) (hX : ∀ b, X b → b < w.heap.size) :
 ∃ y, NetR W y (newNt many.toNat L) ∧ y.N = N ∧ (∀ b, y.all many.toNat b → w.heap.size ≤ b) ∧ ∀ b, y.ext b ↔ X b := by
 have hm := hok.m
 obtain ⟨m, hme⟩ : ∃ m, many.toNat = m := ⟨_, rfl⟩
 have hm1 : 1 ≤ m ∧ m ≤ 6 := by omega
 have hen := fun c d (hc : c < L.length) (_ : d < 2) => hok.en c d hc
 rw [hme] at h hen ⊢
 -- where the routers' and the cables' rows lie
 have hgR : ∃ gR capR, v = .slice (some ⟨gR, 0, none⟩) m capR := by
  rcases h.row.2 with ⟨_, e2⟩ | ⟨g, c, e, _⟩
  · omega
  · exact ⟨g, c, e⟩
 obtain ⟨gR, capR, rfl⟩ := hgR
 have hgC : ∃ gC capC, v2 = rowV gC L.length capC ∧ (gC = none → L.length = 0) := by
  rcases h.row2.2 with ⟨e, e2⟩ | ⟨g, c, e, _⟩
  · exact ⟨none, 0, e, fun _ => e2⟩
  · exact ⟨some g, c, e, fun e => by simp at e⟩
 obtain ⟨gC, capC, rfl, hC0⟩ := hgC
 have hex : ∀ i, ∃ z : Zt, i < m → z.R = P i ∧ RtR W z (newRt ((i : Int) + 1) 3 (msOf L i)) ∧ (∀ b, z.foot b → lo i ≤ b ∧ b < hi i) ∧ ∀ b, (b < lo i ∨ (hi i ≤ b ∧ b < W.heap.size)) → z.fm.no b := fun i => by
  by_cases hi' : i < m
  · obtain ⟨z, h1, h2, h3, _, _, h6⟩ := h.rts i hi'
    exact ⟨z, fun _ => ⟨h1, h2, h3, h6⟩⟩
  · obtain ⟨z, _⟩ := h.rts 0 (by omega)
    exact ⟨z, fun e => absurd e hi'⟩
 obtain ⟨z, hz⟩ := Classical.skolem.1 hex
 have hhi : ∀ i, i < m → lo i ≤ hi i ∧ hi i ≤ W.heap.size := fun i hi' => by
  obtain ⟨_, _, _, _, h4, h5, _⟩ := h.rts i hi'
  exact ⟨h4, h5⟩
 obtain ⟨y, hy⟩ : ∃ y : Yt, y = { N := N, gR := gR, capR := capR, gI := gI, capI := m, gC := gC, capC := capC, bM := bM, z := z, iv := fun _ => .slice none 0 0, ov := fun _ _ => .slice none 0 0, ext := X } := ⟨_, rfl⟩
 have hvR : Value.ownBlock (.slice (some ⟨gR, 0, none⟩) m capR) = some gR := rfl
 have hgCk : ∀ g, gC = some g → Value.ownBlock (rowV gC L.length capC) = some g := fun g e => by subst e; rfl
 have hat : ∀ l k, y.at l = some k → (l = .N ∧ k = N) ∨ (l = .R ∧ k = gR) ∨ (l = .I ∧ k = gI) ∨ (l = .C ∧ gC = some k) := fun l k e => by
  rw [hy] at e
  cases l with
  | N => exact .inl ⟨rfl, (Option.some.inj e).symm⟩
  | R => exact .inr (.inl ⟨rfl, (Option.some.inj e).symm⟩)
  | I => exact .inr (.inr (.inl ⟨rfl, (Option.some.inj e).symm⟩))
  | C => exact .inr (.inr (.inr ⟨rfl, e⟩))
  | ib i => simp [Yt.at, Value.ownBlock] at e
  | on c d => simp [Yt.at, Value.ownBlock] at e
 have hown : ∀ k, y.own k → (k = N ∨ k = gR ∨ k = gI ∨ gC = some k) := fun k ⟨l, e⟩ => by
  rcases hat l k e with ⟨_, e⟩ | ⟨_, e⟩ | ⟨_, e⟩ | ⟨_, e⟩
  · exact .inl e
  · exact .inr (.inl e)
  · exact .inr (.inr (.inl e))
  · exact .inr (.inr (.inr e))
 have hR := h.fv gR hvR
 have hCf : ∀ k, gC = some k → w.heap.size ≤ k ∧ k ≠ N ∧ k ≠ gI ∧ k ≠ bM ∧ gR ≠ k := fun k e => by
  obtain ⟨a1, a2, a3, a4, a5⟩ := h.fv2 k (hgCk k e)
  exact ⟨a1, a2, a3, a4, fun e1 => a5 (by rw [← e1]; rfl)⟩
 have hownge : ∀ k, y.own k → w.heap.size ≤ k := fun k e => by
  rcases hown k e with e | e | e | e
  · rw [e]; exact h.ne.2.2.2.1
  · rw [e]; exact hR.1
  · rw [e]; exact h.ne.2.2.2.2.1
  · exact (hCf k e).1
 have hownlt : ∀ k, y.own k → k < W.heap.size := fun k e => by
  rcases hown k e with e | e | e | e
  · rw [e]; exact h.Nlt
  · rw [e]; exact h.row.lt gR hvR
  · rw [e]; exact h.gi.lt
  · exact h.row2.lt k (hgCk k e)
 have hownout : ∀ k, y.own k → ∀ i, i < m → k < lo i ∨ hi i ≤ k := fun k e i hi' => by
  rcases hown k e with e | e | e | e
  · exact h.out i hi' k (.inl e)
  · exact h.out i hi' k (.inr (.inr (.inr (.inl (by rw [e]; rfl)))))
  · exact h.out i hi' k (.inr (.inl e))
  · exact h.out i hi' k (.inr (.inr (.inr (.inr (hgCk k e)))))
 have hyz : y.z = z := by rw [hy]
 have hye : y.ext = X := by rw [hy]
 have hwW := h.bel.size
 refine ⟨y, ⟨hm1.1, hm1.2, hok.l, ?_, ?_, ?_, ?_, ?_, ?_, ?_, ?_, ?_, ?_, fun _ _ _ _ => Nat.zero_le _, hen, ?_, ?_, ?_, ?_, ?_⟩, by rw [hy], ?_, fun b => by rw [hye]⟩
 · rw [hy]
   have e : (Yt.cv { N := N, gR := gR, capR := capR, gI := gI, capI := m, gC := gC, capC := capC, bM := bM, z := z, iv := fun _ => .slice none 0 0, ov := fun _ _ => .slice none 0 0, ext := X } L.length) = rowV gC L.length capC := by
    rfl
   show Blk W N #[.slice (some ⟨gR, 0, none⟩) m capR, .slice (some ⟨gI, 0, none⟩) m m, .map (some bM), Yt.cv _ L.length] 190
   rw [e]
   exact h.nb
 · intro j hj
   have hj' : j < m := hj
   rw [hy]
   show W.cell? ⟨gR, 0 + j, none⟩ = some (.pointer (some ⟨(z j).R, 0, none⟩)) ∧ W.frozen? ⟨gR, 0 + j, none⟩ = false
   rw [Nat.zero_add, (hz j hj').1]
   exact ⟨Row.cell h.row j _ (ptrsV_at P hj'), Row.spare h.row j (by omega)⟩
 · intro j hj
   have hj' : j < m := hj
   rw [hy]
   show W.cell? ⟨gI, 0 + j, none⟩ = some (.slice none 0 0) ∧ W.frozen? ⟨gI, 0 + j, none⟩ = false
   rw [Nat.zero_add]
   have h1 := h.gi.cell j
   have e : (nilRow m)[j]? = some (.slice none 0 0) := by
    unfold nilRow
    rw [Array.getElem?_replicate, if_pos hj']
   exact ⟨h1.trans e, h.gi.frozen j⟩
 · intro g hg c hc
   have hg' : gC = some g := by rw [hy] at hg; exact hg
   subst hg'
   have hc' : c < L.length := hc
   intro i hi'
   have hrow : Row W 7 (.slice (some ⟨g, 0, none⟩) L.length capC) L.length (cabC (L.take L.length)) := h.row2
   rw [List.take_length] at hrow
   refine ⟨?_, Row.spare hrow (c * 7 + i) (by omega)⟩
   have h1 := cabC_at L c i hc' hi'
   have h2 : [Value.int .i64 L[c].a, .int .i64 L[c].pa, .int .i64 L[c].b, .int .i64 L[c].pb, .bool false, .slice none 0 0, .slice none 0 0][i]? = some (cbF (cabAt L c) (y.ov c) i) := by
    obtain ⟨_, a1, a2⟩ := hok.c L[c] (List.getElem_mem hc')
    have e1 := endOk_iff a1
    have e2 := endOk_iff a2
    have f0 := cabAt_e L c 0 hc'
    have f1 := cabAt_e L c 1 hc'
    rw [if_pos rfl] at f0
    rw [if_neg (by decide)] at f1
    have q1 : (((L[c].a - 1).toNat : Nat) : Int) + 1 = L[c].a := by omega
    have q2 : ((L[c].pa.toNat : Nat) : Int) = L[c].pa := by omega
    have q3 : (((L[c].b - 1).toNat : Nat) : Int) + 1 = L[c].b := by omega
    have q4 : ((L[c].pb.toNat : Nat) : Int) = L[c].pb := by omega
    have : i = 0 ∨ i = 1 ∨ i = 2 ∨ i = 3 ∨ i = 4 ∨ i = 5 ∨ i = 6 := by omega
    rcases this with rfl | rfl | rfl | rfl | rfl | rfl | rfl
    · show some _ = some (Value.int .i64 ((((cabAt L c).e 0).1 : Int) + 1)); rw [f0, q1]
    · show some _ = some (Value.int .i64 (((cabAt L c).e 0).2 : Int)); rw [f0, q2]
    · show some _ = some (Value.int .i64 ((((cabAt L c).e 1).1 : Int) + 1)); rw [f1, q3]
    · show some _ = some (Value.int .i64 (((cabAt L c).e 1).2 : Int)); rw [f1, q4]
    · rfl
    · rw [hy]; rfl
    · rw [hy]; rfl
   rw [h2] at h1
   exact Row.cell hrow _ _ h1
 · intro c hc
   have hc' : c < L.length := hc
   rw [hy]
   show ∃ g, gC = some g
   cases hg : gC with
   | none => have := hC0 hg; omega
   | some g => exact ⟨g, rfl⟩
 · exact ⟨cabEs L, by rw [hy]; exact h.mp, hok.tells m hE⟩
 · intro i hi'
   rw [hyz]
   exact (hz i hi').2.1
 · exact fun i _ => ⟨rfl, rfl⟩
 · intro i _
   rw [hy]
   exact Row.nil _ 3
 · intro c d _ _
   rw [hy]
   exact Row.nil _ 1
 · intro l l' k e e'
   rcases hat l k e with ⟨h1, h2⟩ | ⟨h1, h2⟩ | ⟨h1, h2⟩ | ⟨h1, h2⟩ <;> rcases hat l' k e' with ⟨h3, h4⟩ | ⟨h3, h4⟩ | ⟨h3, h4⟩ | ⟨h3, h4⟩
   · rw [h1, h3]
   · exact absurd (h4.symm.trans h2) hR.2.1
   · exact absurd (h2.symm.trans h4) h.ne.1
   · exact absurd h2 (hCf k h4).2.1
   · exact absurd (h2.symm.trans h4) hR.2.1
   · rw [h1, h3]
   · exact absurd (h2.symm.trans h4) hR.2.2.1
   · exact absurd h2.symm (hCf k h4).2.2.2.2
   · exact absurd (h4.symm.trans h2) h.ne.1
   · exact absurd (h4.symm.trans h2) hR.2.2.1
   · rw [h1, h3]
   · exact absurd h2 (hCf k h4).2.2.1
   · exact absurd h4 (hCf k h2).2.1
   · exact absurd h4.symm (hCf k h2).2.2.2.2
   · exact absurd h4 (hCf k h2).2.2.1
   · rw [h1, h3]
 · intro i hi' b hb
   have hi'' : i < m := hi'
   obtain ⟨_, _, z3, z4⟩ := hz i hi''
   rw [hyz]
   have hnot : b < lo i ∨ (hi i ≤ b ∧ b < W.heap.size) := by
    rcases hb with e | e | ⟨j, hj, hne, e⟩
    · have h1 := hownout b e i hi''
      have h2 := hownlt b e
      omega
    · rw [hye] at e
      have h1 := hX b e
      have h2 := h.lw i hi''
      omega
    · have hj' : j < m := hj
      rw [hyz] at e
      have h1 := (hz j hj').2.2.1 b e
      have h2 := hhi j hj'
      rcases Nat.lt_or_gt_of_ne hne with h3 | h3
      · have := h.sep j i h3 hi''; omega
      · have := h.sep i j h3 hj'; omega
   exact ⟨z4 b hnot, fun e => by have := z3 b (.inl e); omega⟩
 · intro b hb e
   rw [hye] at hb
   have h1 := hX b hb
   have h2 := hownge b e
   omega
 · have hbm : y.bM = bM := by rw [hy]
   rw [hbm, hye, hyz]
   refine ⟨fun e => ?_, fun e => ?_, fun i hi' e => ?_⟩
   · rcases hown bM e with e | e | e | e
     · exact h.ne.2.1 e.symm
     · exact hR.2.2.2 e.symm
     · exact h.ne.2.2.1 e.symm
     · exact (hCf bM e).2.2.2.1 rfl
   · have h1 := hX bM e
     have h2 := h.ne.2.2.2.2.2
     omega
   · have h1 := (hz i hi').2.2.1 bM e
     have h2 := h.out i hi' bM (.inr (.inr (.inl rfl)))
     omega
 · intro e
   have := hownge 0 e
   omega
 · intro b e
   rcases e with e | ⟨j, hj, e⟩
   · exact hownge b e
   · rw [hyz] at e
     have h1 := (hz j hj).2.2.1 b e
     have h2 := h.lw j hj
     omega
end Rt
end Go.Proofs.YtieklnlbljejdaaGreatDoor

namespace Go.Proofs.YtieklnlbljejdaaGreatDoor
open Go.RowKit St
open Go.ChangeShapes Go.WideShapes Go.ChangeAt
namespace Rt
set_option maxRecDepth 100000 in
set_option maxHeartbeats 4000000 in
theorem open_cables {H : Type} {enc : TypeId × Value → H} {W : World} {a : Option Addr} {n cap : Nat} {d : DataW H} {ps : List MemPlace}
 (h : DataW.Trod enc Tryz.prog W 0 (fun _ => true) true 61 (.slice a n cap) d ps) :
 ∃ L : List Cab, CabR W a L ∧ L.length = n ∧ n ≤ maxLen := by
 obtain ⟨fuel, hf⟩ := h
 rcases Go.Deep.open_slice Tryz.underlying61 hf with ⟨hcs, _⟩ | ⟨x, len, cp, m', n', D, Pl, hcs, _, hl, hm, hmm, _, hx⟩
 · simp [Value.cells] at hcs
   obtain ⟨rfl, rfl, rfl⟩ := hcs
   exact ⟨[], fun j hj => by simp at hj, rfl, by decide⟩
 · simp [Value.cells] at hcs
   obtain ⟨rfl, rfl, rfl⟩ := hcs
   simp at hmm
   have ce : (Tryz.prog).cellsOf 81 = 5 := by kernel_rfl
   rw [ce] at hx
   have each : ∀ i, i < n → ∃ q : Cab, W.cell? (x.add (i * 5)) = some (.int .i64 q.a) ∧ W.cell? (x.add (i * 5 + 1)) = some (.int .i64 q.pa) ∧ W.cell? (x.add (i * 5 + 2)) = some (.int .i64 q.b) ∧ W.cell? (x.add (i * 5 + 3)) = some (.int .i64 q.pb) ∧ W.cell? (x.add (i * 5 + 4)) = some (.int .i64 q.m) := by
    intro i hi
    obtain ⟨cs', h1, h2⟩ := hx i (by omega)
    obtain ⟨_, hlen, hcell⟩ := World.cells?_some h1
    obtain ⟨xs, k, hk, hxy, _, hxl, hff⟩ := DataW.trod_struct Tryz.underlying81 h2
    match xs, hxl, cs', hlen with
    | [y0, y1, y2, y3, y4], _, [v0, v1, v2, v3, v4], _ =>
      have g0 := hff 0 _ rfl
      have g1 := hff 1 _ rfl
      have g2 := hff 2 _ rfl
      have g3 := hff 3 _ rfl
      have g4 := hff 4 _ rfl
      have ci : (Tryz.prog).cellsOf 3 = 1 := by kernel_rfl
      simp [ci] at g0 g1 g2 g3 g4
      obtain ⟨i0, f0, _, _⟩ := DataW.trod_int Tryz.underlying3 g0
      obtain ⟨i1, f1, _, _⟩ := DataW.trod_int Tryz.underlying3 g1
      obtain ⟨i2, f2, _, _⟩ := DataW.trod_int Tryz.underlying3 g2
      obtain ⟨i3, f3, _, _⟩ := DataW.trod_int Tryz.underlying3 g3
      obtain ⟨i4, f4, _, _⟩ := DataW.trod_int Tryz.underlying3 g4
      simp at f0 f1 f2 f3 f4
      subst f0 f1 f2 f3 f4
      have c0 := hcell 0 (by omega)
      have c1 := hcell 1 (by omega)
      have c2 := hcell 2 (by omega)
      have c3 := hcell 3 (by omega)
      have c4 := hcell 4 (by omega)
      rw [Go.Deep.add_add] at c0 c1 c2 c3 c4
      exact ⟨⟨i0, i1, i2, i3, i4⟩, c0, c1, c2, c3, c4⟩
   obtain ⟨Q, hQ⟩ : ∃ Q : Nat → Cab, ∀ i, i < n → W.cell? (x.add (i * 5)) = some (.int .i64 (Q i).a) ∧ W.cell? (x.add (i * 5 + 1)) = some (.int .i64 (Q i).pa) ∧ W.cell? (x.add (i * 5 + 2)) = some (.int .i64 (Q i).b) ∧ W.cell? (x.add (i * 5 + 3)) = some (.int .i64 (Q i).pb) ∧ W.cell? (x.add (i * 5 + 4)) = some (.int .i64 (Q i).m) := by
    refine ⟨fun i => if hi : i < n then Classical.choose (each i hi) else ⟨0, 0, 0, 0, 0⟩, fun i hi => ?_⟩
    show W.cell? _ = some (.int .i64 (if hi : i < n then Classical.choose (each i hi) else ⟨0, 0, 0, 0, 0⟩ : Cab).a) ∧ W.cell? _ = some (.int .i64 (if hi : i < n then Classical.choose (each i hi) else ⟨0, 0, 0, 0, 0⟩ : Cab).pa) ∧ W.cell? _ = some (.int .i64 (if hi : i < n then Classical.choose (each i hi) else ⟨0, 0, 0, 0, 0⟩ : Cab).b) ∧ W.cell? _ = some (.int .i64 (if hi : i < n then Classical.choose (each i hi) else ⟨0, 0, 0, 0, 0⟩ : Cab).pb) ∧ W.cell? _ = some (.int .i64 (if hi : i < n then Classical.choose (each i hi) else ⟨0, 0, 0, 0, 0⟩ : Cab).m)
    rw [dif_pos hi]
    exact Classical.choose_spec (each i hi)
   refine ⟨(List.range n).map Q, fun j hj => ?_, by simp, by omega⟩
   have hj' : j < n := by simpa using hj
   obtain ⟨b, off, spot⟩ := x
   obtain ⟨q0, q1, q2, q3, q4⟩ := hQ j hj'
   have hspot : spot = none := by simpa [Addr.add] using World.cell?_spot (hQ 0 (by omega)).1
   subst hspot
   have hg : ((List.range n).map Q)[j] = Q j := by simp
   rw [hg]
   rw [add_plain'] at q0 q1 q2 q3 q4
   exact ⟨b, off, rfl, q0, by simpa [Nat.add_assoc] using q1, by simpa [Nat.add_assoc] using q2, by simpa [Nat.add_assoc] using q3, by simpa [Nat.add_assoc] using q4⟩
end Rt
end Go.Proofs.YtieklnlbljejdaaGreatDoor
