/-
  RtPut RtSay RtLink
-/
import Derived.Test.YtieklnlbljejdaaGreatDoorG04
import Derived.Test.YtieklnlbljejdaaGreatDoorG23
namespace Go.Proofs.YtieklnlbljejdaaGreatDoor
open Go.RowKit St
namespace Rt
theorem ptF_out (p : PtM) (B : Nat) (v v' : Value) (F : Nat → Value) (l : List UInt8) : ∀ j, j < 71 → updV (ptF p B v F) 70 v' j = ptF { p with out := l } B v' F j := by
 intro j hj
 by_cases e : j = 70
 · subst e
   rw [updV_same]
   rfl
 · rw [updV_other _ _ e]
   unfold ptF
   by_cases e0 : j = 0
   · simp [e0]
   · by_cases e1 : j = 1
     · simp [e1]
     · by_cases e2 : j < 67
       · simp [e0, e1, e2]
       · by_cases e3 : j = 67
         · simp [e3]
         · by_cases e4 : j = 68
           · simp [e4]
           · have e5 : j = 69 := by omega
             simp [e5]
theorem PtR.grow {w W x : World} {g o B : Nat} {v : Value} {p : PtM} (h : PtR w g o B v p) (hb : Below w.heap.size w W) (hg : W.grownBy x v.ownBlock) (v' : Value) (l : List UInt8) (hr : Row x 1 v' (p.out ++ l).length (cells8 (p.out ++ l))) (hn : (p.out ++ l).length ≤ 1000000000) (hown : v'.ownBlock = v.ownBlock ∨ ∃ k, v'.ownBlock = some k ∧ W.heap.size ≤ k) :
 PtR (x.setCell ⟨g, o + 70, none⟩ v') g o B v' { p with out := p.out ++ l } ∧ KeptP w (x.setCell ⟨g, o + 70, none⟩ v') g o B v ∧ (∀ i, v'.ownBlock = some i → v.ownBlock = some i ∨ w.heap.size ≤ i) := by
 have hW := h.below hb
 have hbk : ∀ i, i < w.heap.size → v.ownBlock ≠ some i → x.heap[i]? = w.heap[i]? := fun i hi hv => (hg.block i (Nat.lt_of_lt_of_le hi hb.size) (fun e => hv e.symm)).trans (hb.block i hi)
 have hv : ∀ i, v'.ownBlock = some i → v.ownBlock = some i ∨ w.heap.size ≤ i := fun i e => by
  rcases hown with e1 | ⟨k, e1, e2⟩
  · exact .inl (by rw [← e1]; exact e)
  · rw [e] at e1
    have : i = k := by simpa using e1
    have := hb.size
    exact .inr (by omega)
 have hvg : v'.ownBlock ≠ some g := fun e => by
  rcases hv g e with e1 | e1
  · exact h.vg e1
  · have := h.lt; omega
 have hvB : v'.ownBlock ≠ some B := fun e => by
  rcases hv B e with e1 | e1
  · exact h.vB e1
  · have := h.lk.lt; omega
 obtain ⟨F, hC, hR⟩ := h.cel
 have hCx : Cel x g o 71 (ptF p B v F) := hC.keep (hbk g h.lt h.vg)
 refine ⟨⟨⟨F, (hCx.set 70 (by decide) v').congr (ptF_out p B v v' F _), hR⟩, ?_, ?_, hn, h.ok, h.gB, hvg, hvB, h.nz.1, h.nz.2.1, fun e => by
  rcases hv 0 e with e1 | e1
  · exact h.nz.2.2 e1
  · have := h.lt; omega⟩, ⟨?_, ?_, ?_, ?_, ?_, ?_, ?_⟩, hv⟩
 · exact h.lk.keep ((Below.heap_setCell _ _ _ B (fun e => h.gB e.symm)).trans (hbk B h.lk.lt h.vB))
 · exact hr.keep (by simp) (fun k hk => Below.heap_setCell _ _ _ k (fun e => hvg (by rw [hk]; exact congrArg some e)))
 · exact ((Below.refl 0 x).setCell (Nat.zero_le _) _).os.trans (hg.os.trans hb.os)
 · exact ((Below.refl 0 x).setCell (Nat.zero_le _) _).tape.trans (hg.tape.trans hb.tape)
 · exact ((Below.refl 0 x).setCell (Nat.zero_le _) _).output.trans (hg.output.trans hb.output)
 · exact Nat.le_trans hb.size (Nat.le_trans hg.size (by simp))
 · exact fun i hi h1 _ h3 => (Below.heap_setCell _ _ _ i h1).trans (hbk i hi h3)
 · exact fun j hj => (World.cell?_setCell_other _ _ _ _ (fun e => by have := congrArg Addr.off e; simp at this; omega)).trans (World.cell?_of_block (a := ⟨g, j, none⟩) (hbk g h.lt h.vg))
 · exact fun j => (frozen_setCell _ _ _ _).trans (World.frozen?_of_block (a := ⟨g, j, none⟩) (hbk g h.lt h.vg))
structure WentP (w w' : World) (g o B : Nat) (v : Value) (p : PtM) : Prop where
 ex : ∃ v', PtR w' g o B v' p ∧ (∀ i, v'.ownBlock = some i → v.ownBlock = some i ∨ w.heap.size ≤ i)
 kept : KeptP w w' g o B v
theorem WentP.still {w w' : World} {g o B : Nat} {v : Value} {p : PtM} (h : PtR w g o B v p) (hb : Below w.heap.size w w') : WentP w w' g o B v p := ⟨⟨v, h.below hb, fun _ e => .inl e⟩, KeptP.of_below o B v hb h.lt⟩
theorem WentP.trans {a b c : World} {g o B : Nat} {v v' : Value} {p : PtM} (h1 : KeptP a b g o B v) (hv : ∀ i, v'.ownBlock = some i → v.ownBlock = some i ∨ a.heap.size ≤ i) (h2 : WentP b c g o B v' p) : WentP a c g o B v p := by
 obtain ⟨⟨v2, hP, hv2⟩, hK⟩ := h2
 refine ⟨⟨v2, hP, fun i e => ?_⟩, h1.trans hK hv⟩
 rcases hv2 i e with e1 | e1
 · exact hv i e1
 · exact .inr (Nat.le_trans h1.size e1)
theorem frameL_few (l : List UInt8) (h : l.length ≤ 60) : (Plain.frameL l).length ≤ 126 := by
 have := frameL_le l
 omega
set_option maxRecDepth 100000 in
set_option maxHeartbeats 4000000 in
theorem put_any (g o B : Nat) (v : Value) (p : PtM) (T s : ByteArray) (c : UInt8) (w : World) (h : PtR w g o B v p) (hT : T.data.toList = [c]) (hs : s.size ≤ 1000) (hn : p.out.length ≤ 900000000) :
 Calls Tryz.prog 150 #[.pointer (some ⟨g, o, none⟩), .string T, .string s] w fun e w' => e = .returned (.tuple #[]) ∧ WentP w w' g o B v (p.put c s.data.toList) := by
 obtain ⟨i0, hi, hz0, hz1, hz2⟩ := info_parts info8
 have hop := opened_any g o B v p w h
 have hTs : T.size = 1 := by have := congrArg List.length hT; simpa using this
 have hTl : T.toList = [c] := by rw [ByteArray.toList_eq]; exact hT
 have hts : (T ++ s).size = s.size + 1 := by rw [ByteArray.size_append, hTs]; omega
 have htd : (T ++ s).data.toList = c :: s.data.toList := by rw [ByteArray.data_append]; simp [hT]
 have hsl : s.data.toList.length = s.size := by simp
 have c70 := h.c70
 have f70 := h.fz 70 (by decide)
 have hl := h.lt
 have HP : Hid _ := h
 have hno : ∀ W : World, Below w.heap.size w W → PtM.put p c s.data.toList = p → WentP w W g o B v (p.put c s.data.toList) := fun W hW e => by rw [e]; exact WentP.still HP.out hW
 have HNO : Hid _ := hno
 clear hno
 have main : (c = 76 ∨ p.L.st = 9) → Hid (s.size + 1 ≤ 60 → p.put c s.data.toList = { p with out := p.out ++ Plain.frameL (c :: s.data.toList) }) ∧ Hid (¬ s.size + 1 ≤ 60 → p.put c s.data.toList = p) := fun hc => by
  have hc' : ¬ (c ≠ 76 ∧ p.L.st ≠ 9) := fun ⟨a, b⟩ => by rcases hc with e | e <;> contradiction
  refine ⟨fun h1 => ?_, fun h1 => ?_⟩
  · unfold PtM.put
    rw [if_neg hc', if_pos (by rw [hsl]; exact h1)]
  · unfold PtM.put
    rw [if_neg hc', if_neg (by rw [hsl]; exact h1)]
 by_cases h76 : c = 76
 · have q : (T.toList == [76]) = true := by rw [hTl, h76]; rfl
   obtain ⟨H1, H2⟩ := main (.inl h76)
   clear main hTl hop h
   by_cases h60 : s.size + 1 ≤ 60
   · have hm := make_yes (T ++ s) w (by omega)
     rw [htd] at hm
     have hfl := frameL_few (c :: s.data.toList) (by simp; omega)
     have E1 : Hid _ := H1.out h60
     obtain ⟨L, hL⟩ : ∃ L, Plain.frameL (c :: s.data.toList) = L := ⟨_, rfl⟩
     rw [hL] at hm hfl E1
     clear H1 H2 htd hL
     go_enter Tryz.func150, Tryz.ntmps150
     go_wp2_with (fail)
     refine hm.mono ?_
     rintro e w1 ⟨rfl, b1⟩
     have R1 := HP.out.below b1
     have d70 := R1.c70
     have e70 := R1.fz 70 (by decide)
     have dl := R1.lt
     have hou := R1.ou
     have HV : Hid (v.ownBlock ≠ some g) := R1.vg
     clear hm c70 f70
     go_wp2_with (at_builtin; go_must (refine wpList_append_str _ rfl (.tmp 28) (.tmp 29) 140 9 rfl 5 i0 (.int .u8 0) Tryz.underlying140 Tryz.underlying9 hi hz0 hz1 hz2 rfl v p.out.length (cells8 p.out) rfl hou ⟨L.toArray⟩ rfl (by show L.toArray.size ≤ 1000000; simp; omega) (by omega) ?_))
     intro v' x hr hgr hown
     have hsh : ∃ a' n' c', v' = Value.slice a' n' c' := by
      rcases hr.2 with ⟨e, _⟩ | ⟨g', c', e, _⟩
      · exact ⟨_, _, _, e⟩
      · exact ⟨_, _, _, e⟩
     obtain ⟨a', n', c', rfl⟩ := hsh
     have hr' : Row x 1 (.slice a' n' c') (p.out ++ L).length (cells8 (p.out ++ L)) := by
      rw [List.length_append, cells8_append]
      exact hr
     obtain ⟨G1, G2, G3⟩ := PtR.grow HP.out b1 hgr (.slice a' n' c') L hr' (by rw [List.length_append]; omega) hown
     have y70 : x.cell? ⟨g, o + 70, none⟩ = some v := (World.cell?_of_block (a := ⟨g, o + 70, none⟩) (hgr.block g dl (fun e => HV.out e.symm))).trans d70
     have z70 : x.frozen? ⟨g, o + 70, none⟩ = false := (World.frozen?_of_block (a := ⟨g, o + 70, none⟩) (hgr.block g dl (fun e => HV.out e.symm))).trans e70
     have xl : g < x.heap.size := World.block_lt_of_cell? x _ y70
     have HG : Hid (WentP w (x.setCell ⟨g, o + 70, none⟩ (.slice a' n' c')) g o B v (p.put c s.data.toList)) := by
      show WentP _ _ _ _ _ _ _
      rw [E1.out]
      exact ⟨⟨_, G1, G3⟩, G2⟩
     clear G1 G2 G3 hr hr' hgr hown hou R1
     go_wp2_with (fail)
     first | go_end0 | refine bodyPost_ret (results_none rfl _ _ _) rfl ?_
     exact ⟨rfl, HG.out⟩
   · have hm := make_no (T ++ s) w (by omega) (by unfold maxLen; omega)
     have HG : Hid (WentP w w g o B v (p.put c s.data.toList)) := HNO.out w (Below.refl _ _) (H2.out h60)
     clear H1 H2 htd
     go_enter Tryz.func150, Tryz.ntmps150
     go_wp2_with (fail)
     refine hm.mono ?_
     rintro e w1 ⟨rfl, rfl⟩
     clear hm
     go_wp2_with (fail)
     first | go_end0 | refine bodyPost_ret (results_none rfl _ _ _) rfl ?_
     exact ⟨rfl, HG.out⟩
 · have q : (T.toList == [76]) = false := by
    rw [hTl, beq_eq_false_iff_ne]
    intro e
    exact h76 (by simpa using e)
   cases h9 : (p.L.st == 9)
   · have hst : p.L.st ≠ 9 := by simpa using h9
     have HG : Hid (WentP w w g o B v (p.put c s.data.toList)) := HNO.out w (Below.refl _ _) (by unfold PtM.put; rw [if_pos ⟨h76, hst⟩])
     rw [h9] at hop
     clear main hTl h htd
     go_enter Tryz.func150, Tryz.ntmps150
     go_wp2_with (fail)
     refine hop.mono ?_
     rintro e w1 ⟨rfl, rfl⟩
     clear hop
     go_wp2_with (fail)
     first | go_end0 | refine bodyPost_ret (results_none rfl _ _ _) rfl ?_
     exact ⟨rfl, HG.out⟩
   · have hst : p.L.st = 9 := by simpa using h9
     obtain ⟨H1, H2⟩ := main (.inr hst)
     rw [h9] at hop
     clear main hTl h hst
     by_cases h60 : s.size + 1 ≤ 60
     · have hm := make_yes (T ++ s) w (by omega)
       rw [htd] at hm
       have hfl := frameL_few (c :: s.data.toList) (by simp; omega)
       have E1 : Hid _ := H1.out h60
       obtain ⟨L, hL⟩ : ∃ L, Plain.frameL (c :: s.data.toList) = L := ⟨_, rfl⟩
       rw [hL] at hm hfl E1
       clear H1 H2 htd hL
       go_enter Tryz.func150, Tryz.ntmps150
       go_wp2_with (fail)
       refine hop.mono ?_
       rintro e w1 ⟨rfl, rfl⟩
       clear hop
       go_wp2_with (fail)
       refine hm.mono ?_
       rintro e w1 ⟨rfl, b1⟩
       have R1 := HP.out.below b1
       have d70 := R1.c70
       have e70 := R1.fz 70 (by decide)
       have dl := R1.lt
       have hou := R1.ou
       have HV : Hid (v.ownBlock ≠ some g) := R1.vg
       clear hm c70 f70
       go_wp2_with (at_builtin; go_must (refine wpList_append_str _ rfl (.tmp 28) (.tmp 29) 140 9 rfl 5 i0 (.int .u8 0) Tryz.underlying140 Tryz.underlying9 hi hz0 hz1 hz2 rfl v p.out.length (cells8 p.out) rfl hou ⟨L.toArray⟩ rfl (by show L.toArray.size ≤ 1000000; simp; omega) (by omega) ?_))
       intro v' x hr hgr hown
       have hsh : ∃ a' n' c', v' = Value.slice a' n' c' := by
        rcases hr.2 with ⟨e, _⟩ | ⟨g', c', e, _⟩
        · exact ⟨_, _, _, e⟩
        · exact ⟨_, _, _, e⟩
       obtain ⟨a', n', c', rfl⟩ := hsh
       have hr' : Row x 1 (.slice a' n' c') (p.out ++ L).length (cells8 (p.out ++ L)) := by
        rw [List.length_append, cells8_append]
        exact hr
       obtain ⟨G1, G2, G3⟩ := PtR.grow HP.out b1 hgr (.slice a' n' c') L hr' (by rw [List.length_append]; omega) hown
       have y70 : x.cell? ⟨g, o + 70, none⟩ = some v := (World.cell?_of_block (a := ⟨g, o + 70, none⟩) (hgr.block g dl (fun e => HV.out e.symm))).trans d70
       have z70 : x.frozen? ⟨g, o + 70, none⟩ = false := (World.frozen?_of_block (a := ⟨g, o + 70, none⟩) (hgr.block g dl (fun e => HV.out e.symm))).trans e70
       have xl : g < x.heap.size := World.block_lt_of_cell? x _ y70
       have HG : Hid (WentP w (x.setCell ⟨g, o + 70, none⟩ (.slice a' n' c')) g o B v (p.put c s.data.toList)) := by
        show WentP _ _ _ _ _ _ _
        rw [E1.out]
        exact ⟨⟨_, G1, G3⟩, G2⟩
       clear G1 G2 G3 hr hr' hgr hown hou R1
       go_wp2_with (fail)
       first | go_end0 | refine bodyPost_ret (results_none rfl _ _ _) rfl ?_
       exact ⟨rfl, HG.out⟩
     · have hm := make_no (T ++ s) w (by omega) (by unfold maxLen; omega)
       have HG : Hid (WentP w w g o B v (p.put c s.data.toList)) := HNO.out w (Below.refl _ _) (H2.out h60)
       clear H1 H2 htd
       go_enter Tryz.func150, Tryz.ntmps150
       go_wp2_with (fail)
       refine hop.mono ?_
       rintro e w1 ⟨rfl, rfl⟩
       clear hop
       go_wp2_with (fail)
       refine hm.mono ?_
       rintro e w1 ⟨rfl, rfl⟩
       clear hm
       go_wp2_with (fail)
       first | go_end0 | refine bodyPost_ret (results_none rfl _ _ _) rfl ?_
       exact ⟨rfl, HG.out⟩
end Rt
end Go.Proofs.YtieklnlbljejdaaGreatDoor

namespace Go.Proofs.YtieklnlbljejdaaGreatDoor
open Go.RowKit St
namespace Rt
def say1 (p : PtM) (q : APkt) : PtM := if packF q.1 q.2.1 q.2.2 = 0 then p.put 76 (packB q.1 q.2.1 q.2.2) else p
theorem say_snoc : ∀ (l : List APkt) (p : PtM) (q : APkt), p.say (l ++ [q]) = say1 (p.say l) q
 | [], _, _ => rfl
 | x :: l, p, q => by
   show (say1 p x).say (l ++ [q]) = say1 ((say1 p x).say l) q
   exact say_snoc l (say1 p x) q
theorem put_len (p : PtM) (c : UInt8) (s : List UInt8) : (p.put c s).out.length ≤ p.out.length + 126 := by
 unfold PtM.put
 split
 · omega
 · split
   · rename_i h
     have := frameL_few (c :: s) (by simpa using h)
     simp only [List.length_append]
     omega
   · omega
theorem say1_len (p : PtM) (q : APkt) : (say1 p q).out.length ≤ p.out.length + 126 := by
 unfold say1
 split
 · exact put_len _ _ _
 · omega
theorem say_len : ∀ (l : List APkt) (p : PtM), (p.say l).out.length ≤ p.out.length + 126 * l.length
 | [], p => by simp [PtM.say]
 | x :: l, p => by
   have h1 := say_len l (say1 p x)
   have h2 := say1_len p x
   have e : p.say (x :: l) = (say1 p x).say l := rfl
   rw [e, List.length_cons]
   omega
structure PtQ (w : World) (g o B : Nat) (v : Value) (p : PtM) (X : Nat → Prop) (vl : Value) (qs : List PV) : Prop where
 cel : ∃ F, Cel w g o 71 (ptF p B v F) ∧ RdF F p.rd.1 p.rd.2.1 p.rd.2.2
 rep : Rep w B X p.L vl qs
 ou : Row w 1 v p.out.length (cells8 p.out)
 few : p.out.length ≤ 1000000000
 ok : LOk p.L
 gB : g ≠ B
 vg : v.ownBlock ≠ some g
 vB : v.ownBlock ≠ some B
 nz : g ≠ 0 ∧ B ≠ 0 ∧ v.ownBlock ≠ some 0
 xg : X g
 xv : ∀ k, v.ownBlock = some k → X k
theorem packB_few {code id : Int} {os : List Opt} (h : packF code id os = 0) : (packB code id os).length ≤ 100 := by
 have h8 : os.length ≤ 8 := by
  unfold packF at h
  split at h
  · simp at h
  · split at h
    · simp at h
    · omega
 have := optsB_length os
 simp only [packB, List.length_cons]
 omega
set_option maxRecDepth 100000 in
set_option maxHeartbeats 4000000 in
theorem say_port (g o B : Nat) (v : Value) (p : PtM) (X : Nat → Prop) (vl : Value) (qs : List PV) (w : World) (h : PtQ w g o B v p X vl qs) (hq : qs.length ≤ 40) (hn : p.out.length ≤ 800000000) :
 Calls Tryz.prog 123 #[.pointer (some ⟨g, o, none⟩)] w fun e w' => e = .returned (.tuple #[]) ∧ WentP w w' g o B v (p.say (qs.map PV.abs)) := by
 have hout := out_rep B X p.L vl qs w h.rep
 have c1 : w.cell? ⟨g, o + 1, none⟩ = some (.pointer (some ⟨B, 0, none⟩)) := by obtain ⟨F, hC, _⟩ := h.cel; exact hC.cell 1 (by decide)
 have hgl : g < w.heap.size := by obtain ⟨F, hC, _⟩ := h.cel; exact hC.lt (by decide)
 have HQ : Hid _ := h
 clear h
 go_enter Tryz.func123, Tryz.ntmps123
 go_wp2_with (fail)
 refine hout.mono ?_
 rintro e w1 ⟨rfl, hR, hrow, hpk, hK⟩
 have hP1 : PtR w1 g o B v p := by
  obtain ⟨F, hC, hF⟩ := HQ.out.cel
  have hkv : ∀ k, v.ownBlock = some k → w1.heap[k]? = w.heap[k]? := fun k hk => hK.block k (HQ.out.ou.lt k hk) (fun e => HQ.out.vB (by rw [hk, e])) (by simp)
  exact ⟨⟨F, hC.keep (hK.block g hgl HQ.out.gB (by simp)), hF⟩, hR.lk, HQ.out.ou.keep hK.size hkv, HQ.out.few, HQ.out.ok, HQ.out.gB, HQ.out.vg, HQ.out.vB, HQ.out.nz⟩
 have hK1 : KeptP w w1 g o B v := ⟨hK.os, hK.tape, hK.output, hK.size, fun i hi _ h2 _ => hK.block i hi h2 (by simp), fun j _ => World.cell?_of_block (a := ⟨g, j, none⟩) (hK.block g hgl HQ.out.gB (by simp)), fun j => World.frozen?_of_block (a := ⟨g, j, none⟩) (hK.block g hgl HQ.out.gB (by simp))⟩
 have hPk : ∀ W : World, KeptP w1 W g o B v → PksR W vl qs := fun W kW => by
  refine ⟨hrow.keep kW.size (fun k hk => kW.block k (hrow.lt k hk) (fun e1 => HQ.out.rep.own k hk (by rw [e1]; exact HQ.out.xg)) (fun e1 => HQ.out.rep.own k hk (by rw [e1]; exact HQ.out.rep.self)) (fun e1 => HQ.out.rep.own k hk (HQ.out.xv k e1))), fun q hq2 => ⟨(hpk q hq2).opt.keptO (fun k hk => ?_), (hpk q hq2).few⟩⟩
  obtain ⟨f1, _, f3⟩ := (hpk q hq2).far k hk
  exact kW.block k f3 (fun e1 => f1 (by rw [e1]; exact HQ.out.xg)) (fun e1 => f1 (by rw [e1]; exact HQ.out.rep.self)) (fun e1 => f1 (HQ.out.xv k e1))
 have hle : ∀ q ∈ qs, q.n ≤ q.cap := fun q hq2 => (hpk q hq2).le
 have hl1 : g < w1.heap.size := hP1.lt
 obtain ⟨a, ca, rfl, _⟩ := (hPk w1 (KeptP.refl _ _ _ _ _)).shape
 obtain ⟨n, hn2⟩ : ∃ n, qs.length = n := ⟨_, rfl⟩
 have H1 : Hid (PtR w1 g o B v p) := hP1
 have HK1 : Hid _ := hK1
 have HPk : Hid _ := hPk
 have HLe : Hid _ := hle
 have HN : Hid _ := hn2
 rw [hn2] at hq
 rw [hn2]
 clear hout hR hrow hpk hK hP1 hK1 hPk hle hn2 c1
 go_wp2_with (fail)
 go_loopw [12] (fun i wr => ∃ (k : Nat) (vk : Value), k ≤ n ∧ i = .int .i64 k ∧ PtR wr g o B vk (p.say ((qs.map PV.abs).take k)) ∧ KeptP w1 wr g o B v ∧ (∀ i, vk.ownBlock = some i → v.ownBlock = some i ∨ w1.heap.size ≤ i)) (fun i _ => n - (intOf i).toNat)
 case atStart => exact ⟨0, v, Nat.zero_le _, rfl, H1.out, KeptP.refl _ _ _ _ _, fun _ e => .inl e⟩
 case round =>
  obtain ⟨k, vk, hk, rfl, hP, hKk, hvk⟩ := hrel
  by_cases hlt : k < n
  · have hlt' : (k : Int) < (n : Int) := by omega
    have hk0 : (0 : Int) ≤ (k : Int) := by omega
    have lk : k < qs.length := by have := HN.out; omega
    have PK := HPk.out wr hKk
    obtain ⟨a', ca', e1, f1⟩ := PK.shape
    obtain ⟨g1, ea, x0, x1, x2⟩ := f1 k qs[k] (List.getElem?_eq_getElem lk)
    have e1' : a = a' := by simpa using (Value.slice.inj e1).1
    rw [ea] at e1'
    subst e1'
    have ho := PK.opt qs[k] (List.getElem_mem lk)
    have hcp := HLe.out qs[k] (List.getElem_mem lk)
    have HTk : Hid ((qs.map PV.abs).take (k + 1) = (qs.map PV.abs).take k ++ [qs[k].abs]) := by
     show _ = _
     rw [List.take_succ_eq_append_getElem (by simpa using lk)]
     simp
    generalize qs[k] = q at x0 x1 x2 ho hcp HTk
    obtain ⟨qc, qi, qa, qn, qcap, qos⟩ := q
    simp only at x0 x1 x2 ho hcp
    have z0 : wr.cell? ⟨g1, k * 3, none⟩ = some (.int .i64 qc) := by rw [Nat.zero_add] at x0; exact x0
    have z1 : wr.cell? ⟨g1, k * 3 + 1, none⟩ = some (.int .i64 qi) := by rw [Nat.zero_add] at x1; exact x1
    have z2 : wr.cell? ⟨g1, k * 3 + 2, none⟩ = some (.slice qa qn qcap) := by rw [Nat.zero_add] at x2; exact x2
    have hln : (p.say ((qs.map PV.abs).take k)).out.length ≤ 900000000 := by
     have h1 := say_len ((qs.map PV.abs).take k) p
     have h2 : ((qs.map PV.abs).take k).length ≤ k := List.length_take_le _ _
     omega
    have ba := below_alloc wr (.cells #[.int .i64 qc, .int .i64 qi, .slice qa qn qcap] 37)
    have HP : Hid _ := hP
    have HKk : Hid _ := hKk
    have HVk : Hid _ := hvk
    clear PK f1 e1 ea x0 x1 x2 hP hKk hvk
    by_cases hf : packF qc qi qos = 0
    · have hby := pkbytes_good qc qi qa qn qcap qos _ hcp (ho.1.below ba) hf
      have hpl := packB_few hf
      have E1 : Hid (p.say ((qs.map PV.abs).take (k + 1)) = (p.say ((qs.map PV.abs).take k)).put 76 (packB qc qi qos)) := by
       show _ = _
       rw [HTk.out, say_snoc]
       show say1 _ (qc, qi, qos) = _
       unfold say1
       rw [if_pos hf]
      clear hf ho
      obtain ⟨L, hL⟩ : ∃ L, packB qc qi qos = L := ⟨_, rfl⟩
      rw [hL] at hby hpl E1
      clear hL
      go_wp2_with (fail)
      refine hby.mono ?_
      rintro e w3 ⟨rfl, b3⟩
      have k3 := below_chain ba b3
      have hput := put_any g o B vk (p.say ((qs.map PV.abs).take k)) ⟨#[76]⟩ ⟨L.toArray⟩ 76 w3 (HP.out.below k3) rfl (by show L.toArray.size ≤ 1000; simp; omega) hln
      have eL : (⟨L.toArray⟩ : ByteArray).data.toList = L := by simp
      rw [eL] at hput
      clear hby b3
      go_wp2_with (fail)
      refine hput.mono ?_
      rintro e w4 ⟨rfl, hW⟩
      have hW2 : WentP w1 w4 g o B v (p.say ((qs.map PV.abs).take (k + 1))) := by
       rw [E1.out]
       exact WentP.trans (HKk.out.trans (KeptP.of_below o B vk k3 HP.out.lt) HVk.out) HVk.out hW
      have HW : Hid _ := hW2
      clear hput hW hW2 k3 ba
      go_wp2_with (fail)
      go_roundw
      case rel =>
       obtain ⟨⟨v5, h5, h6⟩, h7⟩ := HW.out
       exact ⟨k + 1, v5, by omega, by go_num, h5, h7, h6⟩
      case measure => simp [intOf]; omega
    · have hby := pkbytes_bad qc qi qa qn qcap qos _ (by omega) hcp (ho.1.below ba) hf
      have ee : errV (packF qc qi qos) = .iface 128 (.int .i64 (packF qc qi qos : Int)) := by simp only [errV]; rw [if_neg hf]
      rw [ee] at hby
      have E1 : Hid (p.say ((qs.map PV.abs).take (k + 1)) = p.say ((qs.map PV.abs).take k)) := by
       show _ = _
       rw [HTk.out, say_snoc]
       show say1 _ (qc, qi, qos) = _
       unfold say1
       rw [if_neg hf]
      clear hf ho ee
      generalize packF qc qi qos = f at hby
      go_wp2_with (fail)
      refine hby.mono ?_
      rintro e w3 ⟨rfl, b3⟩
      have HB3 : Hid _ := below_chain ba b3
      clear hby b3 ba
      go_wp2_with (fail)
      go_roundw
      case rel => exact ⟨k + 1, vk, by omega, by go_num, by rw [E1.out]; exact HP.out.below HB3.out, HKk.out.trans (KeptP.of_below o B vk HB3.out HP.out.lt) HVk.out, HVk.out⟩
      case measure => simp [intOf]; omega
  · have hge : ¬ (k : Int) < (n : Int) := by omega
    have HE : Hid (WentP w wr g o B v (p.say (qs.map PV.abs))) := by
     have e1 : (qs.map PV.abs).take k = qs.map PV.abs := List.take_of_length_le (by have := HN.out; simp; omega)
     rw [e1] at hP
     exact WentP.trans HK1.out (fun _ e => .inl e) ⟨⟨vk, hP, hvk⟩, hKk⟩
    clear hP hKk hvk
    go_wp2_with (fail)
    first | go_end0 | refine bodyPost_ret (results_none rfl _ _ _) rfl ?_
    exact ⟨rfl, HE.out⟩
end Rt
end Go.Proofs.YtieklnlbljejdaaGreatDoor

namespace Go.Proofs.YtieklnlbljejdaaGreatDoor
open Go.RowKit St
namespace Rt
structure PtG (w w1 : World) (g o B : Nat) (v : Value) (p : PtM) (out : List APkt) : Prop where
 ex : ∃ vl qs, PtQ w1 g o B v p (fun k => k < w.heap.size) vl qs ∧ qs.map PV.abs = out
 kept : KeptP w w1 g o B v
theorem PtR.begin {w : World} {g o B : Nat} {v : Value} {p : PtM} (h : PtR w g o B v p) : PtG w w g o B v p [] :=
 ⟨⟨.slice none 0 0, [], ⟨h.cel, Rep.rest h.lk, h.ou, h.few, h.ok, h.gB, h.vg, h.vB, h.nz, h.lt, fun k hk => h.ou.lt k hk⟩, rfl⟩, KeptP.refl _ _ _ _ _⟩
theorem PtG.tab {w w1 : World} {g o B : Nat} {v : Value} {p : PtM} {out : List APkt} (h : PtG w w1 g o B v p out) (hT : TabOk w) : TabOk w1 := fun e s he hs => by
 obtain ⟨vl, qs, hQ, _⟩ := h.ex
 exact (World.cell?_of_block (a := ⟨0, e * 10 + s, none⟩) (h.kept.block 0 hT.lt (fun e => hQ.nz.1 e.symm) (fun e => hQ.nz.2.1 e.symm) hQ.nz.2.2)).trans (hT e s he hs)
theorem PtG.went {w w1 w2 : World} {g o B : Nat} {v : Value} {p : PtM} {out out2 : List APkt} {vl : Value} {qs : List PV} {s' : LS} (hQ : PtQ w1 g o B v p (fun k => k < w.heap.size) vl qs) (ho : qs.map PV.abs = out) (hk : KeptP w w1 g o B v)
 (hW : Went w1 w2 B (fun k => k < w.heap.size) s' vl qs out2) (hok : LOk s') : PtG w w2 g o B v { p with L := s' } (out ++ out2) := by
 obtain ⟨⟨v2, q2, hR, ho2, hv2⟩, hK⟩ := hW
 obtain ⟨F, hC, hF⟩ := hQ.cel
 have hlg : g < w1.heap.size := hC.lt (by decide)
 have hnew : ∀ i, vl.ownBlock = some i → ¬ i < w.heap.size := fun i e => hQ.rep.own i e
 have hb : ∀ i, i < w.heap.size → i ≠ B → w2.heap[i]? = w1.heap[i]? := fun i hi hB => hK.block i (Nat.lt_of_lt_of_le hi hk.size) hB (fun e => hnew i e hi)
 have hbg : w2.heap[g]? = w1.heap[g]? := hb g hQ.xg hQ.gB
 refine ⟨⟨v2, qs ++ q2, ⟨⟨F, hC.keep hbg, hF⟩, hR, hQ.ou.keep hK.size (fun k hk2 => hb k (hQ.xv k hk2) (fun e => hQ.vB (by rw [hk2, e]))), hQ.few, hok, hQ.gB, hQ.vg, hQ.vB, hQ.nz, hQ.xg, hQ.xv⟩, by rw [List.map_append, ho, ho2]⟩, ?_⟩
 exact ⟨hK.os.trans hk.os, hK.tape.trans hk.tape, hK.output.trans hk.output, Nat.le_trans hk.size hK.size, fun i hi h1 h2 h3 => (hb i hi h2).trans (hk.block i hi h1 h2 h3), fun j hj => (World.cell?_of_block (a := ⟨g, j, none⟩) hbg).trans (hk.cell j hj), fun j => (World.frozen?_of_block (a := ⟨g, j, none⟩) hbg).trans (hk.fz j)⟩
theorem PtG.say {w w1 : World} {g o B : Nat} {v : Value} {p : PtM} {out : List APkt} (h : PtG w w1 g o B v p out) (hq : out.length ≤ 40) (hn : p.out.length ≤ 800000000) :
 Calls Tryz.prog 123 #[.pointer (some ⟨g, o, none⟩)] w1 fun e w' => e = .returned (.tuple #[]) ∧ WentP w w' g o B v (p.say out) := by
 obtain ⟨vl, qs, hQ, rfl⟩ := h.ex
 refine (say_port g o B v p _ vl qs w1 hQ (by simpa using hq) hn).mono ?_
 rintro e w' ⟨rfl, hW⟩
 exact ⟨rfl, WentP.trans h.kept (fun _ e => .inl e) hW⟩
theorem PtG.do_ {w w1 : World} {g o B : Nat} {v : Value} {p : PtM} {out : List APkt} (h : PtG w w1 g o B v p out) (hT : TabOk w) (hq : out.length ≤ 40) (ev : Int) :
 Calls Tryz.prog 120 #[.pointer (some ⟨B, 0, none⟩), .int .i64 ev] w1 fun e w' => e = .returned (errV (doP p.L ev).2.2) ∧ PtG w w' g o B v { p with L := (doP p.L ev).1 } (out ++ (doP p.L ev).2.1) := by
 have hT1 := h.tab hT
 obtain ⟨vl, qs, hQ, ho⟩ := h.ex
 have hl : qs.length = out.length := by rw [← ho]; simp
 refine (do_all ev B _ p.L vl qs w1 hT1 hQ.rep hQ.ok.bd (by omega)).mono ?_
 rintro e w' ⟨rfl, hW⟩
 exact ⟨rfl, PtG.went hQ ho h.kept hW (hQ.ok.doP ev)⟩
theorem PtG.tick {w : World} {g o B : Nat} {v : Value} {p : PtM} (h : PtR w g o B v p) (hT : TabOk w) :
 Calls Tryz.prog 147 #[.pointer (some ⟨B, 0, none⟩)] w fun e w' => e = .returned (.tuple #[]) ∧ PtG w w' g o B v { p with L := tickS p.L } (tickO p.L) := by
 have hw := h.ok.wt
 have hb := h.begin
 obtain ⟨vl, qs, hQ, ho⟩ := hb.ex
 have hq : qs = [] := by simpa using ho
 subst hq
 have hvn : vl.ownBlock ≠ some 0 := fun e => hQ.rep.own 0 e hT.lt
 refine (tick_rep B _ p.L vl [] w hT h.nz.2.1 hvn hQ.rep h.ok.bd (by simp) (by omega) (by omega)).mono ?_
 rintro e w' ⟨rfl, hW⟩
 refine ⟨rfl, ?_⟩
 have := PtG.went hQ rfl hb.kept hW h.ok.tick
 simpa using this
theorem PtG.state {w w1 : World} {g o B : Nat} {v : Value} {p : PtM} {out : List APkt} (h : PtG w w1 g o B v p out) :
 Calls Tryz.prog 114 #[.pointer (some ⟨B, 0, none⟩)] w1 fun e w' => e = .returned (.int .i64 p.L.st) ∧ w1 = w' := by
 obtain ⟨vl, qs, hQ, ho⟩ := h.ex
 exact state_rep B _ p.L vl qs w1 hQ.rep
theorem PtG.ptr {w w1 : World} {g o B : Nat} {v : Value} {p : PtM} {out : List APkt} (h : PtG w w1 g o B v p out) : w1.cell? ⟨g, o + 1, none⟩ = some (.pointer (some ⟨B, 0, none⟩)) ∧ g < w1.heap.size := by
 obtain ⟨vl, qs, hQ, ho⟩ := h.ex
 obtain ⟨F, hC, hF⟩ := hQ.cel
 exact ⟨hC.cell 1 (by decide), hC.lt (by decide)⟩
end Rt
end Go.Proofs.YtieklnlbljejdaaGreatDoor
