/-
  NtTake NtGather NtIdx
-/
import Derived.Test.YtieklnlbljejdaaGreatDoorG38
import Derived.Test.YtieklnlbljejdaaGreatDoorG39
namespace Go.Proofs.YtieklnlbljejdaaGreatDoor
open Go.RowKit St
namespace Rt
theorem bnot_nil (a : Addr) (n cap : Nat) (w : World) : (binOp .eql 140 (.slice (some a) n cap) (.slice none 0 0)).run Tryz.prog w = .ok (.bool false) w := by kernel_rfl
theorem bis_nil (w : World) : (binOp .eql 140 (.slice none 0 0) (.slice none 0 0)).run Tryz.prog w = .ok (.bool true) w := by kernel_rfl
structure Fresh (w w' : World) (v : Value) (l : List UInt8) : Prop where
 row : Row w' 1 v l.length (cells8 l)
 own : ∀ k, v.ownBlock = some k → w.heap.size ≤ k
 below : Below w.heap.size w w'
set_option maxRecDepth 100000 in
theorem bclone_zero (a : Addr) (cap : Nat) (w : World) :
 Calls Tryz.prog 201 #[.slice (some a) 0 cap] w fun e w' => ∃ (v : Value), e = .returned v ∧ Fresh w w' v [] := by
 have hq := bnot_nil
 go_enter Tryz.func201, Tryz.ntmps201
 go_wp2
 go_ret
 exact ⟨_, rfl, ⟨Row.made w 1 _ #[] (0, 0) 0 0 [] rfl rfl (Nat.le_refl _) (by decide) (.inl rfl) (by simp), fun j hj => own_some (Nat.le_refl _) hj, below_alloc _ _⟩⟩
set_option maxRecDepth 100000 in
theorem bclone_nil (w : World) :
 Calls Tryz.prog 201 #[.slice none 0 0] w fun e w' => ∃ (v : Value), e = .returned v ∧ Fresh w w' v [] := by
 have hq := bis_nil
 go_enter Tryz.func201, Tryz.ntmps201
 go_wp2
 go_ret
 exact ⟨_, rfl, ⟨Row.nil w 1, fun j hj => own_none hj, Below.refl _ _⟩⟩
theorem one_bytes (l : List UInt8) : ∀ u ∈ cells8 l, u.oneCell' = true := by
 intro u hu
 unfold cells8 at hu
 obtain ⟨b, _, rfl⟩ := List.mem_map.1 hu
 rfl
set_option maxRecDepth 100000 in
theorem bclone_some (b off n cap : Nat) (l : List UInt8) (w : World) (hn : n ≤ 1000000) (hpos : 0 < n) (hl : l.length = n) (hc : ∀ j u, (cells8 l)[j]? = some u → w.cell? ⟨b, off + j, none⟩ = some u) :
 Calls Tryz.prog 201 #[.slice (some ⟨b, off, none⟩) n cap] w fun e w' => ∃ (v : Value), e = .returned v ∧ Fresh w w' v l := by
 obtain ⟨i0, hi, hz0, hz1, hz2⟩ := info_parts info8
 have hq := bnot_nil
 have hw0 : Below w.heap.size w (w.alloc (.cells #[] 5)) := below_alloc _ _
 have hrow : Row (w.alloc (.cells #[] 5)) 1 (.slice (some ⟨w.heap.size, 0, none⟩) 0 0) 0 [] := Row.made w 1 _ #[] (0, 0) 0 0 [] rfl rfl (Nat.le_refl _) (by decide) (.inl rfl) (by simp)
 have hcl : ∀ j u, (cells8 l)[j]? = some u → (w.alloc (.cells #[] 5)).cell? ((⟨b, off, none⟩ : Addr).add j) = some u := fun j u hu => by
  rw [add_plain']
  have h1 := hc j u hu
  exact (World.cell?_of_block (a := ⟨b, off + j, none⟩) (hw0.block b (World.block_lt_of_cell? _ _ h1))).trans h1
 have hcl8 : (cells8 l).length = n * 1 := by rw [cells8_length, hl, Nat.mul_one]
 go_enter Tryz.func201, Tryz.ntmps201
 go_wp2_with (at_builtin; go_must (refine wpList_append_row _ rfl (.tmp 5) (.tmp 6) 140 rfl 5 i0 (.int .u8 0) 1 1 Tryz.underlying140 hi hz0 hz1 hz2 rfl (by decide) (.slice (some ⟨w.heap.size, 0, none⟩) 0 0) 0 [] rfl hrow _ n cap (cells8 l) rfl hcl8 hpos hcl (one_bytes l) (by unfold maxLen; omega) (by omega) ?_))
 intro g1 cap1 w1 hr1 hg1 hown1
 have hb1 := grow_below hw0 hg1 (fun j hj => own_some (Nat.le_refl _) hj)
 have hn1 := grow_new (B := w.heap.size) hown1 (by omega) (fun j hj => own_some (Nat.le_refl _) hj)
 clear hg1 hown1
 go_wp2_with (fail)
 go_ret
 refine ⟨_, rfl, ⟨?_, fun j hj => own_some hn1 hj, hb1⟩⟩
 rw [hl]
 exact hr1
theorem Row.front {w : World} {a : Option Addr} {cp : Nat} {l : List UInt8} (h : Row w 1 (.slice a l.length cp) l.length (cells8 l)) (k : Nat) (hk : k ≤ l.length) :
 (convert 140 9 (.slice a k cp)).run Tryz.prog w = .ok (.string ⟨(l.take k).toArray⟩) w := by
 have hlt : (l.take k).length = k := by rw [List.length_take]; omega
 have h1 : Row w 1 (.slice a k cp) k (cells8 (l.take k)) := by
  refine ⟨by rw [cells8_length, hlt, Nat.mul_one], ?_⟩
  rcases h.2 with ⟨e, e0⟩ | ⟨g, cap, e, hg, h1, h2, h3, h4⟩
  · obtain ⟨rfl, _, rfl⟩ := Value.slice.inj e
    exact .inl ⟨by rw [show k = 0 by omega], by omega⟩
  · obtain ⟨rfl, _, rfl⟩ := Value.slice.inj e
    refine .inr ⟨g, cp, rfl, hg, by omega, h2, fun j u hu => h3 j u ?_, h4⟩
    have hj : j < (cells8 (l.take k)).length := (List.getElem?_eq_some_iff.1 hu).1
    rw [cells8_length, hlt] at hj
    unfold cells8 at hu ⊢
    rw [List.getElem?_map, List.getElem?_take] at hu
    rw [if_pos hj] at hu
    rw [List.getElem?_map]
    exact hu
 exact Row.back h1 140 9 5 Tryz.underlying140 Tryz.underlying5 Tryz.underlying9
set_option maxRecDepth 100000 in
set_option maxHeartbeats 1000000 in
theorem takeC_any (g o d : Nat) (c : CbM) (ov : Nat → Value) (many : Int) (w : World) (hd : d < 2) (hC : Cel w g o 7 (cbF c ov)) (hR : Row w 1 (ov d) (c.on d).length (cells8 (c.on d))) (hg : (ov d).ownBlock ≠ some g) (hl : (c.on d).length ≤ 2000) :
 Calls Tryz.prog 158 #[.pointer (some ⟨g, o, none⟩), .int .i64 (d : Int), .int .i64 many] w fun e w' => e = .returned (.string ⟨((c.on d).take (min many.toNat (c.on d).length)).toArray⟩) ∧ ∃ v', CbW w w' g o d { c with on := upN c.on d ((c.on d).drop (min many.toNat (c.on d).length)) } ov v' := by
 have c5 : w.cell? ⟨g, o + 5 + d, none⟩ = some (ov d) := by rw [Nat.add_assoc, hC.cell (5 + d) (by omega), cbF_at c ov d hd]
 have f5 : w.frozen? ⟨g, o + 5 + d, none⟩ = false := by rw [Nat.add_assoc]; exact hC.fz (5 + d) (by omega)
 have gl := hC.lt (by decide)
 have hd' : (d : Int) < 2 := by omega
 have hd0 : (0 : Int) ≤ (d : Int) := by omega
 have HC : Hid _ := hC
 have HG : Hid _ := hg
 obtain ⟨k, hk⟩ : ∃ k, min many.toNat (c.on d).length = k := ⟨_, rfl⟩
 obtain ⟨a, cp, hv⟩ := Row.shape hR
 have hkl : k ≤ (c.on d).length := by omega
 have hmm : max (0 : Int) (min many ((c.on d).length : Nat)) = (k : Int) := by omega
 have hR' := hR
 rw [hv] at hR' c5
 have hcv := Row.front hR' k hkl
 have hdl : ((c.on d).drop k).length = (c.on d).length - k := List.length_drop
 rw [hk]
 have HV : Hid _ := hv
 have HR : Hid _ := hR'
 obtain ⟨l, hle⟩ : ∃ l, c.on d = l := ⟨_, rfl⟩
 rw [hle] at hmm hcv hkl hl hdl c5 HR ⊢
 have HL : Hid _ := hle
 obtain ⟨n, hn⟩ : ∃ n, l.length = n := ⟨_, rfl⟩
 have HN : Hid _ := hn
 rw [hn] at hmm hkl hl hdl c5
 clear hC hR hg hv hle hR' hn
 have hst : ∀ (W w1 : World) (v1 : Value) (L : List UInt8), Below w.heap.size w W → Fresh W w1 v1 L → ∃ a1 cp1, v1 = .slice a1 L.length cp1 ∧ w1.cell? ⟨g, o + 5 + d, none⟩ = w.cell? ⟨g, o + 5 + d, none⟩ ∧ w1.frozen? ⟨g, o + 5 + d, none⟩ = false ∧ g < w1.heap.size := by
  intro W w1 v1 L hb hf
  obtain ⟨a1, cp1, e⟩ := Row.shape hf.row
  have b2 := below_chain hb hf.below
  exact ⟨a1, cp1, e, World.cell?_of_block (a := ⟨g, o + 5 + d, none⟩) (b2.block g gl), (World.frozen?_of_block (a := ⟨g, o + 5 + d, none⟩) (b2.block g gl)).trans f5, Nat.lt_of_lt_of_le gl b2.size⟩
 have HST : Hid _ := hst
 have hfi : ∀ (W w1 : World) (v1 : Value) (L : List UInt8), L = l.drop k → Below w.heap.size w W → Fresh W w1 v1 L → CbW w (w1.setCell ⟨g, o + 5 + d, none⟩ v1) g o d { c with on := upN c.on d (l.drop k) } ov v1 := by
  intro W w1 v1 L hL hb hf
  have b2 := below_chain hb hf.below
  refine CbW.turn hd HC.out HG.out v1 (upN c.on d (l.drop k)) b2.os b2.tape b2.output b2.size (fun x hx _ => b2.block x hx) ?_ (fun x hx => .inr (Nat.le_trans hb.size (hf.own x hx)))
  rw [upN_same, ← hL]
  exact hf.row
 have HFI : Hid _ := hfi
 clear hst hfi
 rcases HR.out.2 with ⟨e, e0⟩ | ⟨g2, cap2, e, hgl, hnc, hcm, hcell, hsp⟩
 · obtain ⟨rfl, _, rfl⟩ := Value.slice.inj e
   have hn0 : n = 0 := by have := HN.out; omega
   subst hn0
   obtain rfl : k = 0 := by omega
   have hcl := bclone_nil w.drew
   have hl0 : l = [] := List.eq_nil_of_length_eq_zero HN.out
   have hld : ([] : List UInt8) = l.drop 0 := by rw [hl0]; rfl
   have htk : List.take 0 l = [] := rfl
   rw [htk] at hcv ⊢
   have HLD : Hid _ := hld
   clear e e0 hmm hld hk
   by_cases hm : many ≤ 0
   · go_enter Tryz.func158, Tryz.ntmps158
     go_wp2_with (fail)
     go_region_with (first | (go_at_call 201; refine hcl.mono ?_; rintro e w1 ⟨v1, rfl, hf⟩; have HF : Hid _ := HFI.out _ _ _ _ HLD.out (below_d w) hf; obtain ⟨a1, cp1, rfl, y5, z5, y6⟩ := HST.out _ _ _ _ (below_d w) hf; rw [c5] at y5))
     all_goals
      clear hcl hf y5 z5
      go_wp2_with (fail)
      go_ret
      exact ⟨rfl, _, HF.out⟩
   · have hm1 : (0 : Int) ≤ many := by omega
     go_enter Tryz.func158, Tryz.ntmps158
     go_wp2_with (fail)
     go_region_with (first | (go_at_call 201; refine hcl.mono ?_; rintro e w1 ⟨v1, rfl, hf⟩; have HF : Hid _ := HFI.out _ _ _ _ HLD.out (below_d w) hf; obtain ⟨a1, cp1, rfl, y5, z5, y6⟩ := HST.out _ _ _ _ (below_d w) hf; rw [c5] at y5))
     all_goals
      clear hcl hf y5 z5
      go_wp2_with (fail)
      go_ret
      exact ⟨rfl, _, HF.out⟩
 · obtain ⟨rfl, _, rfl⟩ := Value.slice.inj e
   have hkc : (k : Int) ≤ (cp : Int) := by have := HN.out; omega
   have hnc' : (n : Int) ≤ (cp : Int) := by have := HN.out; omega
   have hk0 : (0 : Int) ≤ (k : Int) := by omega
   have hkn : (k : Int) ≤ (n : Int) := by omega
   have hcl : Calls Tryz.prog 201 #[.slice (if cp = k then some ⟨g2, 0, none⟩ else some ⟨g2, k, none⟩) (n - k) (cp - k)] w.drew fun e w' => ∃ (v : Value), e = .returned v ∧ Fresh w.drew w' v (l.drop k) := by
    by_cases hz : k = n
    · have e1 : n - k = 0 := by omega
      have e2 : l.drop k = [] := List.drop_eq_nil_of_le (by have := HN.out; omega)
      rw [e1, e2]
      by_cases hck : cp = k
      · rw [if_pos hck]; exact bclone_zero _ _ _
      · rw [if_neg hck]; exact bclone_zero _ _ _
    · rw [if_neg (by omega)]
      refine bclone_some g2 k (n - k) (cp - k) (l.drop k) w.drew (by omega) (by omega) hdl (fun j u hu => ?_)
      refine hcell (k + j) u ?_
      unfold cells8 at hu ⊢
      rw [List.getElem?_map, List.getElem?_drop] at hu
      rw [List.getElem?_map]
      exact hu
   clear e hnc hcm hcell hsp hk
   by_cases hm : many ≤ 0
   · obtain rfl : k = 0 := by omega
     have htk : List.take 0 l = [] := rfl
     rw [htk] at hcv ⊢
     have e0 : (if cp = 0 then some (⟨g2, 0, none⟩ : Addr) else some ⟨g2, 0, none⟩) = some ⟨g2, 0, none⟩ := by split <;> rfl
     rw [Nat.sub_zero, Nat.sub_zero, e0] at hcl
     clear hmm hkc hk0 hkn e0
     go_enter Tryz.func158, Tryz.ntmps158
     go_wp2_with (fail)
     go_region_with (first | (go_at_call 201; refine hcl.mono ?_; rintro e w1 ⟨v1, rfl, hf⟩; have HF : Hid _ := HFI.out _ _ _ _ rfl (below_d w) hf; obtain ⟨a1, cp1, rfl, y5, z5, y6⟩ := HST.out _ _ _ _ (below_d w) hf; rw [c5] at y5))
     all_goals
      clear hcl hf y5 z5
      go_wp2_with (fail)
      go_ret
      exact ⟨rfl, _, HF.out⟩
   · by_cases hn0 : n = 0
     · subst hn0
       obtain rfl : k = 0 := by omega
       have htk : List.take 0 l = [] := rfl
       rw [htk] at hcv ⊢
       have e0 : (if cp = 0 then some (⟨g2, 0, none⟩ : Addr) else some ⟨g2, 0, none⟩) = some ⟨g2, 0, none⟩ := by split <;> rfl
       rw [Nat.sub_zero, Nat.sub_zero, e0] at hcl
       have hm1 : (0 : Int) ≤ many := by omega
       clear hmm hkc hk0 hkn e0
       go_enter Tryz.func158, Tryz.ntmps158
       go_wp2_with (fail)
       go_region_with (first | (go_at_call 201; refine hcl.mono ?_; rintro e w1 ⟨v1, rfl, hf⟩; have HF : Hid _ := HFI.out _ _ _ _ rfl (below_d w) hf; obtain ⟨a1, cp1, rfl, y5, z5, y6⟩ := HST.out _ _ _ _ (below_d w) hf; rw [c5] at y5))
       all_goals
        clear hcl hf y5 z5
        go_wp2_with (fail)
        go_ret
        exact ⟨rfl, _, HF.out⟩
     by_cases hck : cp = k
     · have hkk : k = n := by omega
       subst hkk
       rw [if_pos hck, Nat.sub_self] at hcl
       subst hck
       rw [Nat.sub_self] at hcl
       have hp0 : ¬ (cp : Int) ≤ 0 := by omega
       by_cases hmn : many ≤ (cp : Int)
       · obtain rfl : many = (cp : Int) := by omega
         clear hmm
         go_enter Tryz.func158, Tryz.ntmps158
         go_wp2_with (fail)
         go_region_with (first | (go_at_call 201; refine hcl.mono ?_; rintro e w1 ⟨v1, rfl, hf⟩; have HF : Hid _ := HFI.out _ _ _ _ rfl (below_d w) hf; obtain ⟨a1, cp1, rfl, y5, z5, y6⟩ := HST.out _ _ _ _ (below_d w) hf; rw [c5] at y5))
         all_goals
          clear hcl hf y5 z5
          go_wp2_with (fail)
          go_ret
          have h9 := HF.out
         simp only [hdl, Nat.sub_self] at h9
         exact ⟨rfl, _, h9⟩
       · clear hmm
         go_enter Tryz.func158, Tryz.ntmps158
         go_wp2_with (fail)
         go_region_with (first | (go_at_call 201; refine hcl.mono ?_; rintro e w1 ⟨v1, rfl, hf⟩; have HF : Hid _ := HFI.out _ _ _ _ rfl (below_d w) hf; obtain ⟨a1, cp1, rfl, y5, z5, y6⟩ := HST.out _ _ _ _ (below_d w) hf; rw [c5] at y5))
         all_goals
          clear hcl hf y5 z5
          go_wp2_with (fail)
          go_ret
          have h9 := HF.out
         simp only [hdl, Nat.sub_self] at h9
         exact ⟨rfl, _, h9⟩
     · rw [if_neg hck] at hcl
       have hp0 : ¬ (n : Int) ≤ 0 := by omega
       by_cases hmn : many ≤ (n : Int)
       · obtain rfl : many = (k : Int) := by omega
         clear hmm
         go_enter Tryz.func158, Tryz.ntmps158
         go_wp2_with (fail)
         go_region_with (first | (go_at_call 201; refine hcl.mono ?_; rintro e w1 ⟨v1, rfl, hf⟩; have HF : Hid _ := HFI.out _ _ _ _ rfl (below_d w) hf; obtain ⟨a1, cp1, rfl, y5, z5, y6⟩ := HST.out _ _ _ _ (below_d w) hf; rw [c5] at y5))
         all_goals
          clear hcl hf y5 z5
          go_wp2_with (fail)
          go_ret
          have h9 := HF.out
         simp only [hdl] at h9
         exact ⟨rfl, _, h9⟩
       · obtain rfl : k = n := by omega
         rw [Nat.sub_self] at hcl
         clear hmm
         go_enter Tryz.func158, Tryz.ntmps158
         go_wp2_with (fail)
         go_region_with (first | (go_at_call 201; refine hcl.mono ?_; rintro e w1 ⟨v1, rfl, hf⟩; have HF : Hid _ := HFI.out _ _ _ _ rfl (below_d w) hf; obtain ⟨a1, cp1, rfl, y5, z5, y6⟩ := HST.out _ _ _ _ (below_d w) hf; rw [c5] at y5))
         all_goals
          clear hcl hf y5 z5
          go_wp2_with (fail)
          go_ret
          have h9 := HF.out
         simp only [hdl, Nat.sub_self] at h9
         exact ⟨rfl, _, h9⟩
end Rt
end Go.Proofs.YtieklnlbljejdaaGreatDoor

namespace Go.Proofs.YtieklnlbljejdaaGreatDoor
open Go.RowKit St
namespace Rt
theorem NetR.allLt {w : World} {y : Yt} {n : NtM} (h : NetR w y n) {k : Nat} (hk : y.all n.n k) : k < w.heap.size := by
 rcases hk with e | ⟨j, hj, e⟩
 · exact h.lt (.inl e)
 · exact h.footLt hj e
theorem NetR.cbW {w w' : World} {y : Yt} {n : NtM} {c d g : Nat} {cb : CbM} {v' : Value} (h : NetR w y n) (hc : c < n.nc) (hd : d < 2) (hg : y.gC = some g) (hW : CbW w w' g (c * 7) d cb (y.ov c) v') (he : cb.e = (n.C c).e) (ho : ∀ x, x ≠ d → cb.on x = (n.C c).on x) (hl : (cb.on d).length ≤ 2000) : WentN w w' y (n.setC c cb) n.n := by
 have hne : ∀ x, x < 2 → x ≠ d → ∀ k, (y.ov c x).ownBlock = some k → v'.ownBlock ≠ some k := by
  intro x hx hxd k e e'
  rcases hW.own k e' with e1 | e1
  · have := h.inj (.on c x) (.on c d) k e e1
    injection this with _ h2
    exact hxd h2
  · have := h.at_lt (l := .on c x) e
    omega
 refine h.cable hc hg cb (upN (y.ov c) d v') hW.size hW.os hW.tape hW.output (fun k hk h1 h2 => hW.block k hk h1 (h2 d hd)) hW.cell hW.fz hW.cel (fun x hx => ?_) (fun x hx => ?_) he (fun x k hx e => ?_) (fun k e => ?_)
 · by_cases e : x = d
   · subst e; rw [upN_same]; exact hW.row
   · rw [upN_other _ _ e, ho x e]
     refine (h.ob c x hc hx).keep hW.size (fun k hk => hW.block k ((h.ob c x hc hx).lt k hk) (fun e1 => ?_) (fun e1 => ?_))
     · exact h.at_ne (l := .on c x) (l' := .C) hk hg (by intro e; cases e) e1
     · have := h.inj (.on c x) (.on c d) k hk e1
       injection this with _ h2
       exact e h2
 · by_cases e : x = d
   · subst e; exact hl
   · rw [ho x e]; exact h.ol c x hc hx
 · by_cases ex : x = d
   · subst ex; rw [upN_same] at e; exact hW.own k e
   · rw [upN_other _ _ ex] at e; exact .inl e
 · have hd2 : d = 0 ∨ d = 1 := by omega
   rcases hd2 with rfl | rfl
   · rw [upN_same] at e
     rw [upN_other _ _ (by decide)]
     exact fun e1 => hne 1 (by omega) (by decide) k e1 e
   · rw [upN_other _ _ (by decide)] at e
     rw [upN_same]
     exact hne 0 (by omega) (by decide) k e
theorem NetR.onNe {w : World} {y : Yt} {n : NtM} (h : NetR w y n) {c d g : Nat} (hg : y.gC = some g) : (y.ov c d).ownBlock ≠ some g := fun e => h.at_ne (l := .on c d) (l' := .C) e hg (by intro e; cases e) rfl
theorem putN_any (y : Yt) (n : NtM) (c d g : Nat) (s : ByteArray) (w : World) (h : NetR w y n) (hc : c < n.nc) (hd : d < 2) (hg : y.gC = some g) (hs : s.size ≤ 1000000000) :
 Calls Tryz.prog 161 #[.pointer (some ⟨g, c * 7, none⟩), .int .i64 (d : Int), .string s] w fun e w' => e = .returned (.tuple #[]) ∧ WentN w w' y (n.setC c ((n.C c).put d s.data.toList)) n.n := by
 refine (putC_any g (c * 7) d (n.C c) (y.ov c) s w hd (h.rc g hg c hc) (h.ob c d hc hd) (h.onNe hg) (h.ol c d hc hd) hs).mono ?_
 rintro e w1 ⟨rfl, v', hW⟩
 refine ⟨rfl, h.cbW hc hd hg hW ?_ (fun x hx => ?_) ?_⟩
 · unfold CbM.put; split <;> rfl
 · unfold CbM.put
   split
   · exact upN_other _ _ hx
   · rfl
 · unfold CbM.put
   split
   · rename_i hx
     show (upN (n.C c).on d _ d).length ≤ 2000
     rw [upN_same, List.length_append]
     exact hx.2
   · exact h.ol c d hc hd
theorem outN_any (y : Yt) (n : NtM) (i p : Nat) (w : World) (h : NetR w y n) (hi : i < n.n) (hp : p < 3) :
 Calls Tryz.prog 29 #[.pointer (some ⟨(y.z i).R, 0, none⟩), .int .i64 (p : Int)] w fun e w' => e = .returned (.tuple #[.string ⟨((n.R i).P p).out.toArray⟩, .nilIface]) ∧ WentN w w' y (n.setR i ((n.R i).out p)) n.n := by
 have h3 := (h.rn i hi).1
 refine (outR_any (y.z i) (n.R i) p w (h.rt i hi) (by omega)).mono ?_
 rintro e w1 ⟨rfl, hw⟩
 rw [h3] at hw
 exact ⟨rfl, h.router hi hw (h.rn i hi)⟩
def NtM.gatD (y : NtM) (q d : Nat) : NtM := if d = 0 then y.gatC q else if d = 1 then (y.gatC q).gat1 q 0 else y.gatC (q + 1)
theorem cbF_e (c : CbM) (o : Nat → Value) : cbF c o 0 = .int .i64 (((c.e 0).1 : Int) + 1) ∧ cbF c o 1 = .int .i64 ((c.e 0).2 : Int) ∧ cbF c o 2 = .int .i64 (((c.e 1).1 : Int) + 1) ∧ cbF c o 3 = .int .i64 ((c.e 1).2 : Int) ∧ cbF c o 4 = .bool c.inn := ⟨rfl, rfl, rfl, rfl, rfl⟩
theorem gatD_C (y : NtM) (q d x : Nat) : ((y.gatD q d).C x).e = (y.C x).e := by
 unfold NtM.gatD
 split
 · exact ((gatC_same y q).2.2.2.2 x).1
 · split
   · exact ((gat1_same _ q 0).2.2.2.2 x).1.trans ((gatC_same y q).2.2.2.2 x).1
   · exact ((gatC_same y (q + 1)).2.2.2.2 x).1
theorem gatD_n (y : NtM) (q d : Nat) : (y.gatD q d).n = y.n ∧ (y.gatD q d).nc = y.nc := by
 unfold NtM.gatD
 split
 · exact ⟨(gatC_same y q).1, (gatC_same y q).2.1⟩
 · split
   · exact ⟨(gatC_same y q).1, (gatC_same y q).2.1⟩
   · exact ⟨(gatC_same y (q + 1)).1, (gatC_same y (q + 1)).2.1⟩
theorem gatD_next (y : NtM) (q d : Nat) (hd : d < 2) : y.gatD q (d + 1) = (y.gatD q d).gat1 q d := by
 have : d = 0 ∨ d = 1 := by omega
 rcases this with rfl | rfl <;> rfl
theorem NOk.gatD {y : NtM} {D k : Nat} (h : NOk y D k) (hD : D ≤ 1000000000000000) (q d : Nat) (hq : q < y.nc) : NOk (y.gatD q d) D k := by
 unfold NtM.gatD
 split
 · exact h.gatC hD q (by omega)
 · split
   · exact (h.gatC hD q (by omega)).gat1 hD (by rw [(gatC_same y q).2.1]; exact hq) (by omega)
   · exact h.gatC hD (q + 1) (by omega)
theorem gatEnd_any (w : World) (y : Yt) (n : NtM) (D k q d g m : Nat) (hok : NOk n D k) (hD : D ≤ 1000000000000000) (hk : k ≤ 100000) (hq : q < n.nc) (hd : d < 2) (hg : y.gC = some g) (hm : n.n = m) (i p : Nat) (hip : (n.C q).e d = (i, p)) (W0 W1 : World) (hW : WentN w W0 y (n.gatD q d) m) (hb : Below W0.heap.size W0 W1) (E : Nat) (u v : Value) (hE : W0.heap.size ≤ E) (hc : W1.cell? ⟨E, 0, none⟩ = some u ∧ W1.cell? ⟨E, 1, none⟩ = some v) :
 Calls Tryz.prog 157 #[.pointer (some ⟨y.N, 0, none⟩), .agg #[.int .i64 ((i : Int) + 1), .int .i64 (p : Int)]] W1 fun e w1 => ∃ R, e = .returned (.pointer (some ⟨R, 0, none⟩)) ∧ (w1.cell? ⟨E, 0, none⟩ = some u ∧ w1.cell? ⟨E, 1, none⟩ = some v) ∧
  Calls Tryz.prog 29 #[.pointer (some ⟨R, 0, none⟩), .int .i64 (p : Int)] w1 fun e w2 => ∃ s : ByteArray, e = .returned (.tuple #[.string s, .nilIface]) ∧ (w2.cell? ⟨E, 0, none⟩ = some u ∧ w2.cell? ⟨E, 1, none⟩ = some v) ∧
   ∀ w3, Below w2.heap.size w2 w3 → Calls Tryz.prog 161 #[.pointer (some ⟨g, q * 7, none⟩), .int .i64 (d : Int), .string s] w3 fun e w4 => e = .returned (.tuple #[]) ∧ WentN w w4 y (n.gatD q (d + 1)) m := by
 subst hm
 obtain ⟨hi, hp⟩ := hok.en q d hq hd
 rw [hip] at hi hp
 obtain ⟨gn, gc⟩ := gatD_n n q d
 obtain ⟨y1, R0, s1, hm1, he1⟩ := hW.ex
 have R1 := R0.below hb
 have hEl : E < W1.heap.size := World.block_lt_of_cell? _ _ hc.1
 have hEn : ¬ y1.all n.n E := fun e => by
  have := R0.allLt (k := E) (by rw [gn]; exact e)
  omega
 rw [← s1.N]
 refine (at_any y1 _ i p W1 R1 (by rw [gn]; exact hi)).mono ?_
 rintro e w1 ⟨rfl, b1⟩
 refine ⟨_, rfl, ⟨(World.cell?_of_block (a := ⟨E, 0, none⟩) (b1.block E hEl)).trans hc.1, (World.cell?_of_block (a := ⟨E, 1, none⟩) (b1.block E hEl)).trans hc.2⟩, ?_⟩
 have hE1 : E < w1.heap.size := Nat.lt_of_lt_of_le hEl b1.size
 have R2 := R1.below b1
 refine (outN_any y1 _ i p w1 R2 (by rw [gn]; exact hi) hp).mono ?_
 rintro e w2 ⟨rfl, hw2⟩
 have hk2 := hw2.kept.block E hE1 (by rw [gn]; exact hEn)
 refine ⟨_, rfl, ⟨(World.cell?_of_block (a := ⟨E, 0, none⟩) (hk2.trans (b1.block E hEl))).trans hc.1, (World.cell?_of_block (a := ⟨E, 1, none⟩) (hk2.trans (b1.block E hEl))).trans hc.2⟩, fun w3 b3 => ?_⟩
 have hw3 := hw2.below rfl b3
 rw [gn] at hw3
 have hF := (hok.gatD hD q d hq).fits hD (i := i) (by rw [gn]; exact hi)
 have hsz : ((((n.gatD q d).R i).P p).out).length ≤ 6000 * k := hF.out p (by rw [((hok.gatD hD q d hq).rn i (by rw [gn]; exact hi)).1]; exact hp)
 have h4 : Calls Tryz.prog 161 #[.pointer (some ⟨g, q * 7, none⟩), .int .i64 (d : Int), .string ⟨(((n.gatD q d).R i).P p).out.toArray⟩] w3 fun e w4 => e = .returned (.tuple #[]) ∧ WentN w1 w4 y1 (n.gatD q (d + 1)) n.n := by
  refine hw3.call fun y2 R3 s2 => ?_
  have hg2 : y2.gC = some g := by rw [s2.gC, s1.gC]; exact hg
  have hcc : q < (n.gatD q d).nc := by rw [gc]; exact hq
  have hput := putN_any y2 _ q d g ⟨(((n.gatD q d).R i).P p).out.toArray⟩ w3 R3 hcc hd hg2 (by show Array.size _ ≤ _; simp; omega)
  have e1 : n.gatD q (d + 1) = ((n.gatD q d).setR i (((n.gatD q d).R i).out p)).setC q (((n.gatD q d).C q).put d ((((n.gatD q d).R i).P p).out)) := by
   rw [gatD_next n q d hd]
   unfold NtM.gat1
   rw [gatD_C, hip]
  rw [e1]
  have e2 : ((n.gatD q d).setR i (((n.gatD q d).R i).out p)).n = n.n := gn
  rw [e2] at hput
  have e3 : (⟨(((n.gatD q d).R i).P p).out.toArray⟩ : ByteArray).data.toList = (((n.gatD q d).R i).P p).out := by simp
  rw [e3] at hput
  exact hput
 refine h4.mono ?_
 rintro e w4 ⟨rfl, hw4⟩
 exact ⟨rfl, WentN.thenBy hW.kept s1 hm1 he1 (WentN.first (below_chain hb b1) hw4)⟩
end Rt
end Go.Proofs.YtieklnlbljejdaaGreatDoor

namespace Go.Proofs.YtieklnlbljejdaaGreatDoor
open Go.RowKit St
namespace Rt
theorem idx0 (a b c d : Int) (w : World) : (Instr.index 193 (.agg #[.int .i64 a, .int .i64 b, .int .i64 c, .int .i64 d]) (.int .i64 0)).run Tryz.prog w = .ok (.agg #[.int .i64 a, .int .i64 b]) w := by kernel_rfl
theorem idx1 (a b c d : Int) (w : World) : (Instr.index 193 (.agg #[.int .i64 a, .int .i64 b, .int .i64 c, .int .i64 d]) (.int .i64 1)).run Tryz.prog w = .ok (.agg #[.int .i64 c, .int .i64 d]) w := by kernel_rfl
end Rt
end Go.Proofs.YtieklnlbljejdaaGreatDoor
