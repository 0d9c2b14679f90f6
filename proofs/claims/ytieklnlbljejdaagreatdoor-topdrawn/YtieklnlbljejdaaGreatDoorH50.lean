/-
  NtGate2 NtGate3
-/
import Derived.Test.YtieklnlbljejdaaGreatDoorG47
import Derived.Test.YtieklnlbljejdaaGreatDoorG49
namespace Go.Proofs.YtieklnlbljejdaaGreatDoor
open Go.RowKit St
namespace Rt
structure GN (y : NtM) : Prop where
 ends : ∀ c d, c < y.nc → d < 2 → EndG (y.C c).inn ((y.R ((y.C c).e d).1).P ((y.C c).e d).2)
 off : ∀ c d, c < y.nc → d < 2 → (y.C c).inn = false → (y.C c).on d = []
structure Ends (y : NtM) : Prop where
 ds : ∀ c d c' d', c < y.nc → d < 2 → c' < y.nc → d' < 2 → (y.C c).e d = (y.C c').e d' → c = c' ∧ d = d'
 p3 : ∀ c d, c < y.nc → d < 2 → ((y.C c).e d).2 < 3
 rn : ∀ i, (y.R i).n = 3 ∨ y.n ≤ i
 en : ∀ c d, c < y.nc → d < 2 → ((y.C c).e d).1 < y.n
theorem NOk.toEnds {y : NtM} {D k : Nat} (h : NOk y D k) : Ends y := ⟨h.ds, fun c d hc hd => (h.en c d hc hd).2, fun i => by
 by_cases e : i < y.n
 · exact .inl (h.rn i e).1
 · exact .inr (by omega), fun c d hc hd => (h.en c d hc hd).1⟩
theorem GN.alike {y y' : NtM} (h : GN y) (hn : y'.nc = y.nc) (hC : ∀ c, c < y.nc → (y'.C c).e = (y.C c).e ∧ (y'.C c).inn = (y.C c).inn ∧ ((y.C c).inn = false → ∀ d, d < 2 → (y'.C c).on d = []))
 (hP : ∀ i p, AlkP (y.R i) (y'.R i) p) : GN y' := by
 refine ⟨fun c d hc hd => ?_, fun c d hc hd hf => ?_⟩
 · rw [hn] at hc
   rw [(hC c hc).1, (hC c hc).2.1]
   exact (h.ends c d hc hd).congr (hP _ _).1 (hP _ _).2
 · rw [hn] at hc
   rw [(hC c hc).2.1] at hf
   exact (hC c hc).2.2 hf d hd
theorem gat1_gate {y : NtM} (h : GN y) (c d : Nat) (hc : c < y.nc) : GN (y.gat1 c d) := by
 obtain ⟨s1, s2, s3, s4, s5⟩ := gat1_same y c d
 refine h.alike s2 (fun x hx => ⟨(s5 x).1, (s5 x).2, fun hf e he => ?_⟩) (fun i p => ?_)
 · show (if x = c then (y.C c).put d _ else y.C x).on e = []
   by_cases ex : x = c
   · rw [if_pos ex]
     subst ex
     unfold CbM.put
     rw [if_neg (by simp [hf])]
     exact h.off x e hx he hf
   · rw [if_neg ex]; exact h.off x e hx he hf
 · unfold AlkP
   rw [gat1_P]
   split <;> exact ⟨rfl, rfl⟩
theorem gatC_gate {y : NtM} (h : GN y) : ∀ k, k ≤ y.nc → GN (y.gatC k)
 | 0, _ => h
 | k + 1, hk => by
   have h1 := gatC_gate h k (by omega)
   have e1 : (y.gatC k).nc = y.nc := (gatC_same y k).2.1
   exact gat1_gate (gat1_gate h1 k 0 (by rw [e1]; omega)) k 1 (by show k < (y.gatC k).nc; rw [e1]; omega)
theorem GN.gather {y : NtM} (h : GN y) : GN y.gather := by
 unfold NtM.gather
 have h1 := gatC_gate h y.nc (Nat.le_refl _)
 obtain ⟨e1, e2, e3, e4⟩ := gatI_same (y.gatC y.nc) y.n
 refine h1.alike e2 (fun c hc => ⟨by rw [e4], by rw [e4], fun hf d hd => by rw [e4]; exact h1.off c d hc hd hf⟩) (fun i p => ?_)
 unfold AlkP
 rw [(gatI_R (y.gatC y.nc) i y.n).1]
 split <;> exact ⟨rfl, rfl⟩
theorem GN.setR {y : NtM} (h : GN y) (i : Nat) (r : RtM) (hr : ∀ c d, c < y.nc → d < 2 → ((y.C c).e d).1 = i → EndG (y.C c).inn ((y.R i).P ((y.C c).e d).2) → EndG (y.C c).inn (r.P ((y.C c).e d).2)) : GN (y.setR i r) := by
 refine ⟨fun c d hc hd => ?_, h.off⟩
 show EndG (y.C c).inn ((upN y.R i r ((y.C c).e d).1).P ((y.C c).e d).2)
 by_cases e : ((y.C c).e d).1 = i
 · rw [e, upN_same]
   exact hr c d hc hd e (by have := h.ends c d hc hd; rw [e] at this; exact this)
 · rw [upN_other _ _ e]; exact h.ends c d hc hd
theorem GN.tickR {y : NtM} (h : GN y) (hE : Ends y) (hid : ∀ i p, i < y.n → p < 3 → (∀ c d, c < y.nc → d < 2 → (y.C c).e d ≠ (i, p)) → Idle ((y.R i).P p)) (i : Nat) (hi : i < y.n) : GN (y.setR i (y.R i).tick) := by
 classical
 have hn3 : (y.R i).n = 3 := (hE.rn i).resolve_right (by omega)
 obtain ⟨U, hU⟩ : ∃ U : Nat → Bool, ∀ c d, c < y.nc → d < 2 → ((y.C c).e d).1 = i → U ((y.C c).e d).2 = (y.C c).inn := by
  refine ⟨fun p => if h : ∃ c d, c < y.nc ∧ d < 2 ∧ (y.C c).e d = (i, p) then (y.C h.choose).inn else false, fun c d hc hd he => ?_⟩
  have hex : ∃ c' d', c' < y.nc ∧ d' < 2 ∧ (y.C c').e d' = (i, ((y.C c).e d).2) := ⟨c, d, hc, hd, by rw [← he]⟩
  show (if h : ∃ c' d', c' < y.nc ∧ d' < 2 ∧ (y.C c').e d' = (i, ((y.C c).e d).2) then (y.C h.choose).inn else false) = _
  rw [dif_pos hex]
  obtain ⟨d', hc', hd', he'⟩ := hex.choose_spec
  have := (hE.ds _ _ _ _ hc' hd' hc hd (he'.trans (by rw [← he]))).1
  rw [this]
 have hP : ∀ p, p < 3 → EndG (U p) ((y.R i).P p) ∨ ∀ c d, c < y.nc → d < 2 → (y.C c).e d ≠ (i, p) := fun p _ => by
  by_cases hex : ∃ c d, c < y.nc ∧ d < 2 ∧ (y.C c).e d = (i, p)
  · obtain ⟨c, d, hc, hd, he⟩ := hex
    refine .inl ?_
    have h1 := h.ends c d hc hd
    have h2 := hU c d hc hd (by rw [he])
    rw [he] at h1 h2
    rw [h2]; exact h1
  · exact .inr fun c d hc hd he => hex ⟨c, d, hc, hd, he⟩
 obtain ⟨V, hV⟩ : ∃ V : Nat → Bool, V = fun p => if h : ∃ c d, c < y.nc ∧ d < 2 ∧ (y.C c).e d = (i, p) then U p else false := ⟨_, rfl⟩
 have hVP : ∀ p, p < 3 → EndG (V p) ((y.R i).P p) := fun p hp => by
  rw [hV]
  show EndG (if h : ∃ c d, c < y.nc ∧ d < 2 ∧ (y.C c).e d = (i, p) then U p else false) _
  by_cases hex : ∃ c d, c < y.nc ∧ d < 2 ∧ (y.C c).e d = (i, p)
  · rw [dif_pos hex]
    refine (hP p hp).resolve_right (fun hn => ?_)
    obtain ⟨c, d, hc, hd, he⟩ := hex
    exact hn c d hc hd he
  · rw [dif_neg hex]
    have hI := hid i p hi hp (fun c d hc hd he => hex ⟨c, d, hc, hd, he⟩)
    exact ⟨by simpa using hI.st, fun e => absurd (by rw [hI.pe]; rfl) e⟩
 have ht := (ticks_gate (r := y.R i) (U := V) 3 hVP).1
 refine h.setR i _ (fun c d hc hd he _ => ?_)
 have hp3 := hE.p3 c d hc hd
 have h1 := ht ((y.C c).e d).2 hp3
 have hex : ∃ c' d', c' < y.nc ∧ d' < 2 ∧ (y.C c').e d' = (i, ((y.C c).e d).2) := ⟨c, d, hc, hd, by rw [← he]⟩
 have hv : V ((y.C c).e d).2 = (y.C c).inn := by
  rw [hV]
  show (if h : ∃ c' d', c' < y.nc ∧ d' < 2 ∧ (y.C c').e d' = (i, ((y.C c).e d).2) then U ((y.C c).e d).2 else false) = _
  rw [dif_pos hex]
  exact hU c d hc hd he
 rw [hv] at h1
 show EndG _ (((y.R i).ticks (y.R i).n).P _)
 rw [hn3]; exact h1
theorem GN.recvAt {y : NtM} (h : GN y) (hE : Ends y) (c d k : Nat) (hc : c < y.nc) (hd : d < 2) : GN (y.recvAt c d k) := by
 unfold NtM.recvAt
 have h1 : GN (y.setC c { y.C c with on := upN (y.C c).on d (((y.C c).on d).drop k) }) := by
  refine h.alike rfl (fun x hx => ?_) (fun i p => AlkP.refl _ _)
  show (if x = c then _ else y.C x).e = _ ∧ (if x = c then _ else y.C x).inn = _ ∧ (_ → ∀ d', d' < 2 → (if x = c then _ else y.C x).on d' = [])
  by_cases e : x = c
  · rw [if_pos e]
    subst e
    refine ⟨rfl, rfl, fun hf d' hd' => ?_⟩
    show upN (y.C x).on d _ d' = []
    by_cases e2 : d' = d
    · subst e2; rw [upN_same, h.off x d' hx hd' hf]; simp
    · rw [upN_other _ _ e2]; exact h.off x d' hx hd' hf
  · rw [if_neg e]; exact ⟨rfl, rfl, fun hf d' hd' => h.off x d' hx hd' hf⟩
 have eC : ∀ x, ((y.setC c { y.C c with on := upN (y.C c).on d (((y.C c).on d).drop k) }).C x).e = (y.C x).e ∧ ((y.setC c { y.C c with on := upN (y.C c).on d (((y.C c).on d).drop k) }).C x).inn = (y.C x).inn := fun x => by
  show (if x = c then _ else y.C x).e = _ ∧ (if x = c then _ else y.C x).inn = _
  by_cases e : x = c
  · rw [if_pos e]; subst e; exact ⟨rfl, rfl⟩
  · rw [if_neg e]; exact ⟨rfl, rfl⟩
 refine h1.setR _ _ (fun x d' hx hd' he hend => ?_)
 rw [(eC x).1] at he hend ⊢
 rw [(eC x).2] at hend ⊢
 have hx' : x < y.nc := hx
 have hend' : EndG (y.C x).inn ((y.R ((y.C c).e (1 - d)).1).P ((y.C x).e d').2) := hend
 by_cases hin : (y.C c).inn = true
 · have hu : UpG ((y.R ((y.C c).e (1 - d)).1).P ((y.C c).e (1 - d)).2) := by
    have := h.ends c (1 - d) hc (by omega)
    rw [hin] at this
    exact EndG.up.1 this
   obtain ⟨a, b⟩ := recv_gate ((y.C c).e (1 - d)).2 (((y.C c).on d).take k) hu
   by_cases e : ((y.C x).e d').2 = ((y.C c).e (1 - d)).2
   · have := (hE.ds x d' c (1 - d) hx' hd' hc (by omega) (by rw [Prod.ext_iff]; exact ⟨he, e⟩)).1
     rw [e, this, hin]
     exact EndG.up.2 a
   · exact hend'.congr (b _ e).1 (b _ e).2
 · have hf : (y.C c).inn = false := by simpa using hin
   rw [h.off c d hc hd hf]
   have := recv_nil (y.R ((y.C c).e (1 - d)).1) ((y.C c).e (1 - d)).2 ((y.C x).e d').2
   rw [List.take_nil]
   exact hend'.congr this.1 this.2
theorem GN.plug1 {y : NtM} (h : GN y) (hE : Ends y) (c : Nat) (up : Bool) (hc : c < y.nc) (hu : (y.C c).inn = !up) : GN (y.plug1 c up) := by
 obtain ⟨e0, he0⟩ : ∃ e0, (y.C c).e 0 = e0 := ⟨_, rfl⟩
 obtain ⟨e1, he1⟩ : ∃ e1, (y.C c).e 1 = e1 := ⟨_, rfl⟩
 have hne : e0 ≠ e1 := fun e => by
  have := (hE.ds c 0 c 1 hc (by omega) hc (by omega) (by rw [he0, he1, e])).2
  omega
 have h0 := h.ends c 0 hc (by omega)
 have h1 := h.ends c 1 hc (by omega)
 rw [he0, hu] at h0
 rw [he1, hu] at h1
 obtain ⟨a0, _, b0⟩ := plug_gate e0.2 h0
 obtain ⟨cb, hcb⟩ : ∃ cb : CbM, cb = { y.C c with inn := up, on := fun _ => [] } := ⟨_, rfl⟩
 have cbe : cb.e = (y.C c).e := by rw [hcb]
 have cbi : cb.inn = up := by rw [hcb]
 have cbo : ∀ d, cb.on d = [] := fun d => by rw [hcb]
 have hf : ∀ (z : NtM) (d : Nat) (e : Nat × Nat), (z.C c).e d = e → z.plugAt c d up = z.setR e.1 ((z.R e.1).plug e.2 up).1 := by
  intro z d e he
  unfold NtM.plugAt
  rw [he]
 have hCc : (y.setC c cb).C c = cb := upN_same _ _ _
 have hp : y.plug1 c up = ((y.setC c cb).setR e0.1 ((y.R e0.1).plug e0.2 up).1).setR e1.1 ((upN y.R e0.1 ((y.R e0.1).plug e0.2 up).1 e1.1).plug e1.2 up).1 := by
  unfold NtM.plug1
  rw [← hcb, hf (y.setC c cb) 0 e0 (by rw [hCc, cbe, he0]), hf _ 1 e1 (by show ((y.setC c cb).C c).e 1 = e1; rw [hCc, cbe, he1])]
  rfl
 clear hcb
 -- the second end's router, behind the first
 obtain ⟨r1, hr1⟩ : ∃ r1, upN y.R e0.1 ((y.R e0.1).plug e0.2 up).1 e1.1 = r1 := ⟨_, rfl⟩
 have hr1P : ∀ p, (e1.1, p) ≠ e0 → AlkP (y.R e1.1) r1 p := fun p hpe => by
  rw [← hr1]
  by_cases e : e1.1 = e0.1
  · rw [e, upN_same]
    exact b0 p (fun e2 => hpe (by rw [Prod.ext_iff]; exact ⟨e, e2⟩))
  · rw [upN_other _ _ e]; exact AlkP.refl _ _
 have hr1e : EndG (!up) (r1.P e1.2) := h1.congr (hr1P e1.2 (fun e => hne e.symm)).1 (hr1P e1.2 (fun e => hne e.symm)).2
 obtain ⟨a1, _, b1⟩ := plug_gate e1.2 hr1e
 rw [hp, hr1]
 have hview : ∀ i p, EndG up ((upN (upN y.R e0.1 ((y.R e0.1).plug e0.2 up).1) e1.1 (r1.plug e1.2 up).1 i).P p) ∨ ((i, p) ≠ e0 ∧ (i, p) ≠ e1) := fun i p => by
  by_cases x1 : (i, p) = e1
  · left
    rw [← x1] at a1 ⊢
    rw [upN_same]; exact a1
  · by_cases x0 : (i, p) = e0
    · left
      by_cases e : i = e1.1
      · rw [e, upN_same]
        have hp2 : p ≠ e1.2 := fun e2 => x1 (by rw [Prod.ext_iff]; exact ⟨e, e2⟩)
        have hr : r1.P p = ((y.R e0.1).plug e0.2 up).1.P e0.2 := by
         rw [← hr1, ← e, ← x0, upN_same]
        exact (a0.congr (by rw [hr]) (by rw [hr]) : EndG up (r1.P p)).congr (b1 p hp2).1 (b1 p hp2).2
      · rw [upN_other _ _ e, ← x0, upN_same]
        rw [← x0] at a0
        exact a0
    · exact .inr ⟨x0, x1⟩
 have hsame : ∀ i p, (i, p) ≠ e0 → (i, p) ≠ e1 → AlkP (y.R i) (upN (upN y.R e0.1 ((y.R e0.1).plug e0.2 up).1) e1.1 (r1.plug e1.2 up).1 i) p := fun i p x0 x1 => by
  by_cases e : i = e1.1
  · subst e
    rw [upN_same]
    exact (hr1P p x0).trans (b1 p (fun e2 => x1 (by rw [Prod.ext_iff]; exact ⟨rfl, e2⟩)))
  · rw [upN_other _ _ e]
    by_cases e' : i = e0.1
    · subst e'
      rw [upN_same]
      exact b0 p (fun e2 => x0 (by rw [Prod.ext_iff]; exact ⟨rfl, e2⟩))
    · rw [upN_other _ _ e']; exact AlkP.refl _ _
 refine ⟨fun x d hx hd => ?_, fun x d hx hd hf => ?_⟩
 · show EndG ((if x = c then cb else y.C x) : CbM).inn ((upN (upN y.R e0.1 ((y.R e0.1).plug e0.2 up).1) e1.1 (r1.plug e1.2 up).1 (((if x = c then cb else y.C x) : CbM).e d).1).P (((if x = c then cb else y.C x) : CbM).e d).2)
   have hx' : x < y.nc := hx
   by_cases e : x = c
   · rw [if_pos e, cbe, cbi]
     refine (hview _ _).resolve_right (fun hn => ?_)
     have : d = 0 ∨ d = 1 := by omega
     rcases this with rfl | rfl
     · exact hn.1 he0
     · exact hn.2 he1
   · rw [if_neg e]
     have n0 : (y.C x).e d ≠ e0 := fun e2 => e (hE.ds x d c 0 hx' hd hc (by omega) (by rw [he0]; exact e2)).1
     have n1 : (y.C x).e d ≠ e1 := fun e2 => e (hE.ds x d c 1 hx' hd hc (by omega) (by rw [he1]; exact e2)).1
     have := hsame ((y.C x).e d).1 ((y.C x).e d).2 n0 n1
     exact (h.ends x d hx' hd).congr this.1 this.2
 · have hf' : ((if x = c then cb else y.C x) : CbM).inn = false := hf
   show ((if x = c then cb else y.C x) : CbM).on d = []
   by_cases e : x = c
   · rw [if_pos e]; exact cbo d
   · rw [if_neg e] at hf' ⊢
     exact h.off x d hx hd hf'
theorem Ends.plug1 {y : NtM} (h : Ends y) (c : Nat) (up : Bool) : Ends (y.plug1 c up) := by
 obtain ⟨g1, g2, g3, g4, g5⟩ := plug1_same y c up
 refine ⟨fun a d a' d' ha hd ha' hd' e => ?_, fun a d ha hd => ?_, fun i => ?_, fun a d ha hd => ?_⟩
 · rw [(g5 a).1, (g5 a').1] at e; rw [g2] at ha ha'; exact h.ds a d a' d' ha hd ha' hd' e
 · rw [(g5 a).1]; rw [g2] at ha; exact h.p3 a d ha hd
 · have hpl : ∀ (x : NtM) (d : Nat), (∀ i, (x.R i).n = 3 ∨ x.n ≤ i) → ∀ i, ((x.plugAt c d up).R i).n = 3 ∨ (x.plugAt c d up).n ≤ i := fun x d hx i => by
    show (upN x.R ((x.C c).e d).1 _ i).n = 3 ∨ x.n ≤ i
    by_cases e : i = ((x.C c).e d).1
    · rw [e, upN_same, (Grew.plug _ _ up).n]; exact hx _
    · rw [upN_other _ _ e]; exact hx i
   unfold NtM.plug1
   obtain ⟨cb, hcb⟩ : ∃ cb : CbM, cb = { y.C c with inn := up, on := fun _ => [] } := ⟨_, rfl⟩
   rw [← hcb]
   exact hpl _ 1 (hpl (y.setC c cb) 0 h.rn) i
 · rw [(g5 a).1, g1]; rw [g2] at ha; exact h.en a d ha hd
theorem GN.plugs (up : Bool) : ∀ (l : List Nat) {y : NtM}, GN y → Ends y → l.Nodup → (∀ c ∈ l, c < y.nc ∧ (y.C c).inn = !up) → GN (y.plugs up l) ∧ Ends (y.plugs up l) ∧ ∀ x, ((y.plugs up l).C x).inn = if x ∈ l then up else (y.C x).inn
 | [], y, h, hE, _, _ => ⟨h, hE, fun x => by simp [NtM.plugs]⟩
 | c :: l, y, h, hE, hnd, hl => by
   obtain ⟨g1, g2, g3, g4, g5⟩ := plug1_same y c up
   have hc := hl c (by simp)
   have hnd' := List.nodup_cons.1 hnd
   obtain ⟨a, b, d⟩ := GN.plugs up l (h.plug1 hE c up hc.1 hc.2) (hE.plug1 c up) hnd'.2 (fun x hx => by
    have hne : x ≠ c := fun e => hnd'.1 (e ▸ hx)
    rw [g2, (g5 x).2, if_neg hne]
    exact hl x (by simp [hx]))
   refine ⟨a, b, fun x => ?_⟩
   show (((y.plug1 c up).plugs up l).C x).inn = _
   rw [d x, (g5 x).2]
   by_cases e1 : x ∈ l
   · rw [if_pos e1, if_pos (by simp [e1])]
   · by_cases e2 : x = c
     · rw [if_neg e1, if_pos e2, if_pos (by simp [e2])]
     · rw [if_neg e1, if_neg e2, if_neg (by simp [e1, e2])]
theorem GN.restart {y : NtM} {D : Nat} (h : GN y) (hok : NOk y D 0) (i : Int) : GN (y.restart i).1 ∧ ∀ x, x < y.nc → ((y.restart i).1.C x).inn = (y.C x).inn := by
 unfold NtM.restart
 split
 · exact ⟨h, fun _ _ => rfl⟩
 · rename_i hi
   obtain ⟨k, hk⟩ : ∃ k, (i - 1).toNat = k := ⟨_, rfl⟩
   rw [hk]
   obtain ⟨l, hl⟩ : ∃ l, y.cabsIn k = l := ⟨_, rfl⟩
   rw [hl]
   have hmem : ∀ c, c ∈ l ↔ c < y.nc ∧ (y.C c).inn = true ∧ (((y.C c).e 0).1 = k ∨ ((y.C c).e 1).1 = k) := fun c => by
    rw [← hl]
    unfold NtM.cabsIn
    simp [List.mem_filter]
   have hnd : l.Nodup := by
    rw [← hl]
    unfold NtM.cabsIn
    exact List.Nodup.sublist List.filter_sublist List.nodup_range
   obtain ⟨a, b, d⟩ := GN.plugs false l h hok.toEnds hnd (fun c hc => ⟨((hmem c).1 hc).1, ((hmem c).1 hc).2.1⟩)
   obtain ⟨s1, s2, s3, s4, s5⟩ := plugs_same false l y
   obtain ⟨y1, hy1⟩ : ∃ y1, y.plugs false l = y1 := ⟨_, rfl⟩
   rw [hy1] at a b d s1 s2 s3 s4 s5 ⊢
   have a2 : GN (y1.setR k (newRt i 3 (y.ms k))) := by
    refine a.setR k _ (fun c e hc he heq _ => ?_)
    have hc' : c < y.nc := by rw [s2] at hc; exact hc
    have hf : (y1.C c).inn = false := by
     rw [d c]
     by_cases hm : c ∈ l
     · rw [if_pos hm]
     · rw [if_neg hm]
       by_cases hin : (y.C c).inn = true
       · exfalso
         rw [s5 c] at heq
         refine hm ((hmem c).2 ⟨hc', hin, ?_⟩)
         have : e = 0 ∨ e = 1 := by omega
         rcases this with rfl | rfl
         · exact .inl heq
         · exact .inr heq
       · simpa using hin
    rw [hf]
    have hI := newRt_idle i (y.ms k) ((y1.C c).e e).2
    exact ⟨by simpa using hI.st, fun e => absurd (by rw [hI.pe]; rfl) e⟩
   have b2 : Ends (y1.setR k (newRt i 3 (y.ms k))) := ⟨b.ds, b.p3, fun j => by
    show (upN y1.R k _ j).n = 3 ∨ y1.n ≤ j
    by_cases e : j = k
    · rw [e, upN_same]; exact .inl rfl
    · rw [upN_other _ _ e]; exact b.rn j, b.en⟩
   obtain ⟨a3, _, d3⟩ := GN.plugs true l a2 b2 hnd (fun c hc => ⟨by show c < y1.nc; rw [s2]; exact ((hmem c).1 hc).1, by show (y1.C c).inn = _; rw [d c, if_pos hc]; rfl⟩)
   refine ⟨a3.gather, fun x hx => ?_⟩
   rw [((gather_same _).2.2.2 x).2, d3 x]
   show (if x ∈ l then true else (y1.C x).inn) = _
   rw [d x]
   by_cases hm : x ∈ l
   · rw [if_pos hm, ((hmem x).1 hm).2.1]
   · rw [if_neg hm, if_neg hm]
theorem GN.plug {y : NtM} {D : Nat} (h : GN y) (hok : NOk y D 0) (i : Int) (up : Bool) : GN (y.plug i up).1 ∧ ∀ x, ((y.plug i up).1.C x).inn = if (x : Int) = i ∧ x < y.nc then up else (y.C x).inn := by
 unfold NtM.plug
 split
 · rename_i hi
   exact ⟨h, fun x => by rw [if_neg (by omega)]⟩
 · rename_i hi
   split
   · rename_i hin
     refine ⟨h, fun x => ?_⟩
     split
     · rename_i hx
       have : x = i.toNat := by omega
       rw [this, hin]
     · rfl
   · rename_i hin
     refine ⟨(h.plug1 hok.toEnds i.toNat up (by omega) (by cases hv : (y.C i.toNat).inn <;> cases up <;> simp_all)).gather, fun x => ?_⟩
     rw [((gather_same _).2.2.2 x).2, ((plug1_same y i.toNat up).2.2.2.2 x).2]
     by_cases e : x = i.toNat
     · rw [if_pos e, if_pos (by omega)]
     · rw [if_neg e, if_neg (by omega)]
theorem GN.tick {y : NtM} {D : Nat} (h : GN y) (hok : NOk y D 0) (i : Int) : GN (y.tick i).1 ∧ ∀ x, ((y.tick i).1.C x).inn = (y.C x).inn := by
 unfold NtM.tick
 split
 · exact ⟨h, fun _ => rfl⟩
 · exact ⟨(h.tickR hok.toEnds hok.idle (i - 1).toNat (by omega)).gather, fun x => ((gather_same _).2.2.2 x).2⟩
theorem recvAt_inn (y : NtM) (c d k x : Nat) : ((y.recvAt c d k).C x).inn = (y.C x).inn := by
 show ((if x = c then _ else y.C x) : CbM).inn = _
 by_cases e : x = c
 · rw [if_pos e]; subst e; rfl
 · rw [if_neg e]
theorem GN.deliver {y : NtM} {D : Nat} (h : GN y) (hok : NOk y D 0) (i d m : Int) : GN (y.deliver i d m).1 ∧ ∀ x, ((y.deliver i d m).1.C x).inn = (y.C x).inn := by
 unfold NtM.deliver
 split
 · exact ⟨h, fun _ => rfl⟩
 · exact ⟨(h.recvAt hok.toEnds _ _ _ (by omega) (by omega)).gather, fun x => by rw [((gather_same _).2.2.2 x).2, recvAt_inn]⟩
theorem GN.send {y : NtM} (h : GN y) (f t : Int) (tx : List UInt8) : GN (y.send f t tx).1 ∧ ∀ x, ((y.send f t tx).1.C x).inn = (y.C x).inn := by
 unfold NtM.send
 split
 · exact ⟨h, fun _ => rfl⟩
 · split
   · exact ⟨h, fun _ => rfl⟩
   · refine ⟨GN.gather (h.setR _ _ (fun c d hc hd he hend => ?_)), fun x => ((gather_same _).2.2.2 x).2⟩
     have : ∀ (r : RtM) (p : Nat), AlkP r (sendTo r t tx).1 p := fun r p => by
      unfold sendTo
      split
      · exact AlkP.refl r p
      · show AlkP r (r.send (t, 8, tx)) p
        exact AlkP.send r (t, 8, tx) p
     exact hend.congr (this _ _).1 (this _ _).2
theorem GN.spoil {y : NtM} (h : GN y) (i d j : Int) (t : UInt8) : GN (y.spoil i d j t).1 ∧ ∀ x, ((y.spoil i d j t).1.C x).inn = (y.C x).inn := by
 unfold NtM.spoil
 split
 · exact ⟨h, fun _ => rfl⟩
 · split
   · exact ⟨h, fun _ => rfl⟩
   · obtain ⟨cb, hcb⟩ : ∃ cb : CbM, cb = { y.C i.toNat with on := upN (y.C i.toNat).on d.toNat (((y.C i.toNat).on d.toNat).set j.toNat (((y.C i.toNat).on d.toNat).getD j.toNat 0 ^^^ t)) } := ⟨_, rfl⟩
     rw [← hcb]
     have e1 : cb.e = (y.C i.toNat).e := by rw [hcb]
     have e2 : cb.inn = (y.C i.toNat).inn := by rw [hcb]
     have hC : ∀ x, ((y.setC i.toNat cb).C x).inn = (y.C x).inn := fun x => by
      show ((if x = i.toNat then cb else y.C x) : CbM).inn = _
      by_cases e : x = i.toNat
      · rw [if_pos e, e2, e]
      · rw [if_neg e]
     refine ⟨GN.gather (h.alike rfl (fun x hx => ?_) (fun i p => AlkP.refl _ _)), fun x => by rw [((gather_same _).2.2.2 x).2, hC]⟩
     refine ⟨?_, hC x, fun hf d' hd' => ?_⟩
     · show ((if x = i.toNat then cb else y.C x) : CbM).e = _
       by_cases e : x = i.toNat
       · rw [if_pos e, e1, e]
       · rw [if_neg e]
     · show ((if x = i.toNat then cb else y.C x) : CbM).on d' = []
       by_cases e : x = i.toNat
       · rw [if_pos e, hcb]
         show upN (y.C i.toNat).on d.toNat _ d' = []
         subst e
         by_cases e2 : d' = d.toNat
         · subst e2; rw [upN_same, h.off _ _ hx hd' hf]; rfl
         · rw [upN_other _ _ e2]; exact h.off _ d' hx hd' hf
       · rw [if_neg e]; exact h.off x d' hx hd' hf
end Rt
end Go.Proofs.YtieklnlbljejdaaGreatDoor

namespace Go.Proofs.YtieklnlbljejdaaGreatDoor
open Go.RowKit St
namespace Rt
theorem GN.ticks {y : NtM} {D : Nat} (h : GN y) (hok : NOk y D 0) (hD : D ≤ 800000000) : ∀ q, q ≤ 6 → GN (y.ticks q)
 | 0, _ => h
 | q + 1, hq => ((GN.ticks h hok hD q (by omega)).tick (hok.ticks hD q (by omega)) ((q : Int) + 1)).1
theorem GN.delivs {y : NtM} {D : Nat} (h : GN y) (hok : NOk y D 0) (hD : D ≤ 890000000) : ∀ q, q ≤ 9 → GN (y.delivs q)
 | 0, _ => h
 | q + 1, hq => by
   have h1 := hok.delivs hD q (by omega)
   have h2 := GN.delivs h hok hD q (by omega)
   exact ((h2.deliver h1 (q : Int) 0 2000).1.deliver (h1.deliver (by omega) (q : Int) 0 2000) (q : Int) 1 2000).1
theorem GN.turns {y : NtM} {D : Nat} (h : GN y) (hok : NOk y D 0) (hD : D ≤ 810000000) : ∀ t, t ≤ 12 → GN (y.turns t)
 | 0, _ => h
 | t + 1, ht => (GN.turns h hok hD t (by omega)).delivs (hok.turns hD t (by omega)) (by omega) y.nc hok.c9
theorem GN.round {y : NtM} {D : Nat} (h : GN y) (hok : NOk y D 0) (hD : D ≤ 800000000) : GN y.round :=
 (h.ticks hok hD y.n hok.n6).turns (hok.ticks hD y.n hok.n6) (by have := hok.n6; omega) 12 (Nat.le_refl _)
def isPlug (v : AV) : Bool := v.kind.toList == [112, 108, 117, 103]
theorem GN.act {y : NtM} {D : Nat} (h : GN y) (hok : NOk y D 0) (hD : D ≤ 800000000) (v : AV) : GN (actN y v) ∧ ∀ x, x < y.nc → ((actN y v).C x).inn = if isPlug v = true ∧ (x : Int) = v.a then v.b == 1 else (y.C x).inn := by
 unfold actN
 by_cases k1 : (v.kind.toList == [112, 108, 117, 103]) = true
 · rw [if_pos k1]
   obtain ⟨a, b⟩ := h.plug hok v.a (v.b == 1)
   refine ⟨a, fun x hx => ?_⟩
   rw [b x]
   have hp : isPlug v = true := k1
   by_cases e : (x : Int) = v.a
   · rw [if_pos ⟨e, hx⟩, if_pos ⟨hp, e⟩]
   · rw [if_neg (fun h => e h.1), if_neg (fun h => e h.2)]
 · rw [if_neg k1]
   have hp : ∀ x : Nat, ¬ (isPlug v = true ∧ (x : Int) = v.a) := fun x e => k1 e.1
   have hfin : ∀ z : NtM, (GN z ∧ ∀ x, x < y.nc → (z.C x).inn = (y.C x).inn) → GN z ∧ ∀ x, x < y.nc → (z.C x).inn = if isPlug v = true ∧ (x : Int) = v.a then v.b == 1 else (y.C x).inn := fun z hz => ⟨hz.1, fun x hx => by rw [if_neg (hp x)]; exact hz.2 x hx⟩
   apply hfin
   split
   · obtain ⟨a, b⟩ := h.tick hok v.a
     exact ⟨a, fun x _ => b x⟩
   · split
     · obtain ⟨a, b⟩ := h.deliver hok v.a v.b v.c
       exact ⟨a, fun x _ => b x⟩
     · split
       · exact h.restart hok v.a
       · split
         · obtain ⟨a, b⟩ := h.send v.a v.b v.s.data.toList
           exact ⟨a, fun x _ => b x⟩
         · split
           · exact ⟨h.round hok hD, fun x _ => ((round_same y).2.2.2 x).2⟩
           · exact ⟨h, fun _ _ => rfl⟩
theorem newNt_gate (many : Nat) (L : List Cab) : GN (newNt many L) := by
 refine ⟨fun c d _ _ => ?_, fun c d _ _ _ => rfl⟩
 have hI := newRt_idle (((((newNt many L).C c).e d).1 : Int) + 1) (msOf L (((newNt many L).C c).e d).1) (((newNt many L).C c).e d).2
 have h1 : ((newNt many L).R (((newNt many L).C c).e d).1).P (((newNt many L).C c).e d).2 = (newRt (((((newNt many L).C c).e d).1 : Int) + 1) 3 (msOf L (((newNt many L).C c).e d).1)).P (((newNt many L).C c).e d).2 := rfl
 rw [h1]
 exact ⟨by rw [show ((newNt many L).C c).inn = false from rfl, if_neg (by decide)]; exact hI.st, fun e => absurd (by
  show ((newRt _ 3 _).P _).pe.who = 0
  rw [hI.pe]; rfl) e⟩
theorem GN.port {y : NtM} {D : Nat} (h : GN y) (hok : NOk y D 0) {i p : Nat} (hi : i < y.n) (hp : p < 3) :
 (((y.R i).P p).pe.who ≠ 0 → ((y.R i).P p).L.st = 9) ∧ (((y.R i).P p).pe.both = true → ((y.R i).P p).pe.who ≠ 0) ∧ ((y.R i).P p).pe.who ≠ (i : Int) + 1 := by
 have h3 := hok.rn i hi
 have hpe := (hok.ok i hi).pe p (by rw [h3.1]; exact hp)
 refine ⟨?_, fun e => by have := hpe.both e; omega, by have := hpe.me; rw [h3.2] at this; exact this⟩
 by_cases hex : ∃ c d, c < y.nc ∧ d < 2 ∧ (y.C c).e d = (i, p)
 · obtain ⟨c, d, hc, hd, he⟩ := hex
   have := (h.ends c d hc hd).gate
   rw [he] at this
   exact this
 · have hI := hok.idle i p hi hp (fun c d hc hd he => hex ⟨c, d, hc, hd, he⟩)
   intro e
   exact absurd (by rw [hI.pe]; rfl) e
theorem GN.drawn {y : NtM} {D : Nat} (h : GN y) (hok : NOk y D 0) {c d : Nat} (hc : c < y.nc) (hd : d < 2) (hf : (y.C c).inn = false) :
 ((y.R ((y.C c).e d).1).P ((y.C c).e d).2).L.st = 1 ∧ ((y.R ((y.C c).e d).1).P ((y.C c).e d).2).pe.who = 0 ∧ ((y.R ((y.C c).e d).1).P ((y.C c).e d).2).pe.both = false ∧ (y.C c).on d = [] := by
 have he := h.ends c d hc hd
 rw [hf] at he
 have h1 : ((y.R ((y.C c).e d).1).P ((y.C c).e d).2).L.st = 1 := by simpa using he.st
 have h2 : ((y.R ((y.C c).e d).1).P ((y.C c).e d).2).pe.who = 0 := by
  by_cases e : ((y.R ((y.C c).e d).1).P ((y.C c).e d).2).pe.who = 0
  · exact e
  · have := he.gate e
    rw [h1] at this
    omega
 obtain ⟨hi, hp⟩ := hok.en c d hc hd
 refine ⟨h1, h2, ?_, h.off c d hc hd hf⟩
 have := (h.port hok hi hp).2.1
 cases hb : ((y.R ((y.C c).e d).1).P ((y.C c).e d).2).pe.both
 · rfl
 · exact absurd h2 (this hb)
end Rt
end Go.Proofs.YtieklnlbljejdaaGreatDoor
