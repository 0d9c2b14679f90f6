/-
  'tell': one tells another one what it owes.
-/
import Derived.Test.YtielnomhdahciaaSpreadPure
namespace Go.Proofs.Ytielnomhdahciaa
open Go.RowKit St

set_option maxRecDepth 100000 in
set_option maxHeartbeats 4000000 in
theorem tell_base (Bx By : Nat) (mx my : FM) (cx cy : Nat) (Kx Ky : Int → Option PS) (Ox Oy : Nat → Int → Option PS) (w : World) (hx : BR w Bx mx cx Kx Ox) (hy : BR w By my cy Ky Oy) (ha : Apart mx my) (lx : mx.bs.length = 1) (ly : my.bs.length = 1)
    (hI : ∀ k, Ox 0 k = none ∨ Ox 0 k = Kx k) (hc : cy ≤ 100000) :
    Calls Try.prog 34 #[.pointer (some ⟨Bx, 0, none⟩), .pointer (some ⟨By, 0, none⟩)] w fun e w' => e = .returned (.tuple #[]) ∧
      (∃ c, c ≤ cy + 12 ∧ BR w' Bx mx cx Kx (fun _ k => nO (Ox 0 k) (Ky k)) ∧ BR w' By my c (fun k => nK (Ox 0 k) (Ky k)) (fun _ k => nP (Ox 0 k) (Ky k) (Oy 0 k))) ∧ Kept2 w w' mx my := by
  have hod := owed_base Bx mx cx Kx Ox 0 w hx (by omega)
  go_enter Try.func34, Try.ntmps34
  go_wp2_with (fail)
  refine hod.mono ?_
  rintro e w1 ⟨la, ln, lc, S, E, rfl, l1, l2, l3, l4, k1⟩
  have HL : Hid _ := l2
  have HK1 : Hid (Kept2 w w1 mx my) := (Kept2.refl w mx my).left (KeptM.of_below mx k1)
  have HX : Hid _ := hx.below k1
  have HY : Hid _ := hy.below k1
  have HI : Hid _ := hI
  clear hod l2 l4 hx hy k1 hI
  have HS : Hid _ := l1
  clear l1
  go_wp2_with (fail)
  go_loopw [5] (fun i wr => ∃ j : Nat, j ≤ ln ∧ i = .int .i64 j ∧ (∃ c, c ≤ cy + 2 * j ∧ BR wr Bx mx cx Kx (fun _ => stO S (Ox 0) Ky j) ∧ BR wr By my c (stK S (Ox 0) Ky j) (fun _ => stP S (Ox 0) Ky (Oy 0) j)) ∧ Kept2 w wr mx my ∧ StsR wr la ln S E) (fun i _ => ln - (intOf i).toNat)
  case atStart =>
    refine ⟨0, Nat.zero_le _, rfl, ⟨cy, by omega, HX.out.congrR (fun _ _ => rfl) (fun i hi x _ => ?_), HY.out.congrR (fun x _ => by rw [stK_zero]) (fun i hi x _ => ?_)⟩, HK1.out, HS.out⟩
    · have : i = 0 := by omega
      subst this
      rw [stO_zero]
    · have : i = 0 := by omega
      subst this
      rw [stP_zero]
  case round =>
    obtain ⟨j, hj, rfl, ⟨c, hcj, hx, hy⟩, hk2, hS⟩ := hrel
    clear HX HY HK1 HS
    by_cases hlt : j < ln
    · have hlt' : (j : Int) < (ln : Int) := by omega
      obtain ⟨hat, hFa⟩ := HL.out.at_ j hlt
      have hstf := HL.out.ok j hlt
      obtain ⟨ho, hz, hxn⟩ := hS.opt j hlt
      have hrow := hS.row
      rcases hrow with h1 | ⟨sb, off, rfl, hcs⟩
      · omega
      obtain ⟨c0, c1, c2⟩ := hcs j hlt
      clear hcs
      have hso := (stF_zero hstf).1
      have hnf := newF_at (Ky := Ky) HL.out j hlt
      have ht := take_base By my c _ _ 0 (S j).own (S j).seq (S j).a (S j).n (S j).cap (E j) wr hy hat (by omega) ho hz (by omega) hstf (hS3 _ _)
      rw [hnf, stK_step HL.out j hlt] at ht
      have HSP := stP_step (Ky := Ky) (Oy := Oy 0) HL.out j hlt (fun _ => stP S (Ox 0) Ky (Oy 0) j) rfl
      have HSO := stO_step (Ky := Ky) HL.out j hlt
      have HN0 : Hid (newF Kx (S j).own (S j).seq (E j) = 0) := by
        show _ = _
        rcases HI.out (S j).own with h1 | h1
        · rw [hFa] at h1; cases h1
        · rw [hFa] at h1
          rw [newF, ← h1]
          exact newS_zero.2 ⟨rfl, rfl⟩
      have HHE : Hid (∀ W (c' : Nat), KeptM wr W my → Calls Try.prog 18 #[.pointer (some ⟨Bx, 0, none⟩), .int .i64 0, .agg #[.int .i64 (S j).own, .int .i64 (S j).seq, .slice (S j).a (S j).n (S j).cap]] W fun e w' => e = .returned .nilIface ∧ BR w' Bx mx cx Kx (fun i => if i = 0 ∧ 0 ≤ newF Kx (S j).own (S j).seq (E j) then delF (stO S (Ox 0) Ky j) (S j).own else stO S (Ox 0) Ky j) ∧ KeptM W w' mx) := by
        intro W c' hW
        exact heard_base Bx mx cx Kx _ 0 (S j).own (S j).seq (S j).a (S j).n (S j).cap (E j) W (hx.two hy ha hW (by omega)) hat (by omega) (ho.two hW hy) hstf (hS3 _ _)
      have HP : Hid _ := HSP
      have HO : Hid _ := HSO
      clear HSP HSO
      have Hx : Hid _ := hx
      have Hy : Hid _ := hy
      have HkS : Hid _ := hS
      have Hk2 : Hid _ := hk2
      clear hx hy hS hk2 hstf ho hz hat hFa hnf
      have hcell : Hid (∀ W, KeptM wr W my → W.cell? ⟨sb, off + j * 3, none⟩ = some (.int .i64 (S j).own) ∧ W.cell? ⟨sb, off + j * 3 + 1, none⟩ = some (.int .i64 (S j).seq) ∧ W.cell? ⟨sb, off + j * 3 + 2, none⟩ = some (.slice (S j).a (S j).n (S j).cap)) :=
        fun W hW => ⟨hW.cell Hy.out c0, hW.cell Hy.out c1, hW.cell Hy.out c2⟩
      generalize cmpO ((S j).seq, E j) (Ky (S j).own) = r at ht HO
      generalize hF : newF Kx (S j).own (S j).seq (E j) = z0 at HN0 HHE
      have HF : Hid _ := hF
      clear hF
      generalize (S j).seq = sq at c1 ht HHE hcell HP HF
      generalize (S j).a = sa at c2 ht HHE hcell
      generalize (S j).n = sn at c2 ht HHE hcell hxn
      generalize (S j).cap = sc at c2 ht HHE hcell
      generalize (S j).own = so at c0 ht HHE hcell HO HP HF hso
      by_cases hr : 0 ≤ r
      · rw [if_pos hr] at HO
        go_wp2_with (fail)
        refine ht.mono ?_
        rintro e w2 ⟨rfl, hy2, M2⟩
        obtain ⟨d0, d1, d2⟩ := hcell.out w2 M2
        have hhe := HHE.out w2 c M2
        have Hy2 : Hid _ := hy2
        have HM2 : Hid _ := M2
        clear ht HHE hy2 M2 c0 c1 c2
        go_wp2_with (fail)
        refine hhe.mono ?_
        rintro e w3 ⟨rfl, hx3, M3⟩
        have Hx3 : Hid _ := hx3
        have HM3 : Hid _ := M3
        clear hhe hx3 M3
        go_wp2_with (fail)
        go_roundw
        case rel =>
          have x2 := Hx.out.two Hy.out ha HM2.out (by omega)
          have y3 := Hy2.out.two x2 ha.symm HM3.out (by omega)
          have s3 := (HkS.out.two HM2.out Hy.out).two HM3.out x2
          refine ⟨j + 1, by omega, by go_num, ⟨c + 1 + my.bs.length, by omega, Hx3.out.congrR (fun _ _ => rfl) (fun i hi x _ => ?_), y3.congrR (fun _ _ => rfl) (fun i hi x _ => ?_)⟩, (Hk2.out.right HM2.out).left HM3.out, s3⟩
          · have e0 : i = 0 := by omega
            rw [HN0.out, if_pos ⟨e0, by omega⟩]
            exact congrFun HO.out x
          · have e0 : i = 0 := by omega
            rw [e0]
            exact congrFun HP.out x
        case measure => simp [intOf]; omega
      · rw [if_neg hr] at HO
        go_wp2_with (fail)
        refine ht.mono ?_
        rintro e w2 ⟨rfl, hy2, M2⟩
        have Hy2 : Hid _ := hy2
        have HM2 : Hid _ := M2
        clear ht HHE hy2 M2 c0 c1 c2
        go_wp2_with (fail)
        go_roundw
        case rel =>
          have x2 := Hx.out.two Hy.out ha HM2.out (by omega)
          have s3 := HkS.out.two HM2.out Hy.out
          refine ⟨j + 1, by omega, by go_num, ⟨c + 1 + my.bs.length, by omega, x2.congrR (fun _ _ => rfl) (fun i hi x _ => ?_), Hy2.out.congrR (fun _ _ => rfl) (fun i hi x _ => ?_)⟩, Hk2.out.right HM2.out, s3⟩
          · exact congrFun HO.out x
          · have e0 : i = 0 := by omega
            rw [e0]
            exact congrFun HP.out x
        case measure => simp [intOf]; omega
    · have hjl : j = ln := by omega
      subst hjl
      have hge : ¬ (j : Int) < (j : Int) := by omega
      have hx' : Hid (BR wr Bx mx cx Kx (fun _ k => nO (Ox 0 k) (Ky k))) := hx.congrR (fun _ _ => rfl) (fun i _ x hxr => by
        simp only [stO]
        cases e : (Ox 0 x).isSome with
        | true => rw [if_pos (hit_all HL.out x hxr e)]
        | false =>
          have : Ox 0 x = none := by cases h9 : Ox 0 x with | none => rfl | some q => rw [h9] at e; cases e
          rw [hit_none HL.out x this j (Nat.le_refl _), this]
          rfl)
      have hy' : Hid (BR wr By my c (fun k => nK (Ox 0 k) (Ky k)) (fun _ k => nP (Ox 0 k) (Ky k) (Oy 0 k))) := hy.congrR (fun x hxr => by
        simp only [stK]
        cases e : (Ox 0 x).isSome with
        | true => rw [if_pos (hit_all HL.out x hxr e)]
        | false =>
          have : Ox 0 x = none := by cases h9 : Ox 0 x with | none => rfl | some q => rw [h9] at e; cases e
          rw [hit_none HL.out x this j (Nat.le_refl _), this]
          rfl) (fun i _ x hxr => by
        simp only [stP]
        cases e : (Ox 0 x).isSome with
        | true => rw [if_pos (hit_all HL.out x hxr e)]
        | false =>
          have : Ox 0 x = none := by cases h9 : Ox 0 x with | none => rfl | some q => rw [h9] at e; cases e
          rw [hit_none HL.out x this j (Nat.le_refl _), this]
          rfl)
      clear hx hy
      go_wp2_with (fail)
      first | go_end0 | refine bodyPost_ret (results_none rfl _ _ _) rfl ?_
      exact ⟨rfl, ⟨c, by omega, hx'.out, hy'.out⟩, hk2⟩
end Go.Proofs.Ytielnomhdahciaa
