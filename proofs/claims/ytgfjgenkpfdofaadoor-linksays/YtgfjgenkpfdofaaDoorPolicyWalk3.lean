/-
  The program's policy package: Told.
-/
import Derived.Test.YtgfjgenkpfdofaaDoorPolicyWalk2
namespace Go.Proofs.YtgfjgenkpfdofaaDoor
open Go.RowKit

theorem Pol.set {w : World} {B : Nat} {s m : Int} (h : Pol w B s m) (s' m' : Int) : Pol ((w.setCell ⟨B, 0, none⟩ (.int .i64 s')).setCell ⟨B, 1, none⟩ (.int .i64 m')) B s' m' := by
  refine ⟨?_, ?_, ?_, ?_⟩
  · exact (World.cell?_setCell_other _ ⟨B, 1, none⟩ ⟨B, 0, none⟩ _ (by simp)).trans (World.cell?_setCell_same' _ _ _ (by rw [h.c0]; rfl))
  · exact World.cell?_setCell_same' _ _ _ (by rw [World.cell?_setCell_other _ ⟨B, 0, none⟩ ⟨B, 1, none⟩ _ (by simp), h.c1]; rfl)
  · simp [h.f0]
  · simp [h.f1]
theorem Pol.other {w : World} {B B' : Nat} {s m : Int} (h : Pol w B s m) (hne : B' ≠ B) (x y : Value) : Pol ((w.setCell ⟨B', 0, none⟩ x).setCell ⟨B', 1, none⟩ y) B s m := by
  refine ⟨?_, ?_, ?_, ?_⟩
  · rw [World.cell?_setCell_far _ _ _ _ hne, World.cell?_setCell_far _ _ _ _ hne]; exact h.c0
  · rw [World.cell?_setCell_far _ _ _ _ hne, World.cell?_setCell_far _ _ _ _ hne]; exact h.c1
  · simp [h.f0]
  · simp [h.f1]

set_option maxRecDepth 100000 in
set_option maxHeartbeats 2000000 in
theorem told_any (sz mg code : Int) (a : Option Addr) (n cap : Nat) (os : List Opt) (w : World) (hn : n ≤ 1000000) (ho : OptR w a n os) :
    Calls Tryd.prog 42 #[.agg #[.int .i64 sz, .int .i64 mg], .int .i64 code, .slice a n cap] w fun e w' =>
      e = .returned (.agg #[.int .i64 (toldR code os (sz, mg)).1, .int .i64 (toldR code os (sz, mg)).2]) ∧ Below w.heap.size w w' := by
  have hz := zeroPol
  have P0 : Pol ((w.alloc (.cells #[.int .i64 sz, .int .i64 mg] 56)).alloc (.cells #[.int .i64 0, .int .i64 0] 56)) w.heap.size sz mg := by
    have hA := fun j => World.cell?_alloc_mark w #[.int .i64 sz, .int .i64 mg] 56 (0, 0) j
    have hF := fun j => World.frozen?_alloc_mark w #[.int .i64 sz, .int .i64 mg] 56 0 0 j
    exact Pol.below ⟨hA 0, hA 1, by rw [hF]; rfl, by rw [hF]; rfl⟩ (below_alloc _ _)
  have P1 : Pol ((w.alloc (.cells #[.int .i64 sz, .int .i64 mg] 56)).alloc (.cells #[.int .i64 0, .int .i64 0] 56)) (w.heap.size + 1) 0 0 := by
    have hA := fun j => World.cell?_alloc_mark (w.alloc (.cells #[.int .i64 sz, .int .i64 mg] 56)) #[.int .i64 0, .int .i64 0] 56 (0, 0) j
    have hF := fun j => World.frozen?_alloc_mark (w.alloc (.cells #[.int .i64 sz, .int .i64 mg] 56)) #[.int .i64 0, .int .i64 0] 56 0 0 j
    have e : (w.alloc (.cells #[.int .i64 sz, .int .i64 mg] 56)).heap.size = w.heap.size + 1 := by simp
    rw [e] at hA hF
    exact ⟨hA 0, hA 1, by rw [hF]; rfl, by rw [hF]; rfl⟩
  have hw0 : Below w.heap.size w ((w.alloc (.cells #[.int .i64 sz, .int .i64 mg] 56)).alloc (.cells #[.int .i64 0, .int .i64 0] 56)) := (below_alloc _ _).alloc (by simp) _
  go_enter Tryd.func42, Tryd.ntmps42
  go_wp2_with (fail)
  go_loopw [11] (fun i wr => ∃ (k : Nat) (s m : Int), k ≤ n ∧ i = .int .i64 k ∧ toldR code os (sz, mg) = toldR code (os.drop k) (s, m) ∧ Pol wr w.heap.size s m ∧ Pol wr (w.heap.size + 1) 0 0 ∧ Below w.heap.size w wr) (fun i _ => n - (intOf i).toNat)
  case atStart => exact ⟨0, sz, mg, Nat.zero_le _, rfl, rfl, P0, P1, hw0⟩
  case round =>
    obtain ⟨k, s, m, hk, rfl, hT0, hP, hP1, hbel⟩ := hrel
    have HF : Hid _ := hT0
    clear hT0 P0 P1
    have Q0 := hP
    have Q1 := hP1
    obtain ⟨c0, c1, f0, f1⟩ := hP
    obtain ⟨d0, d1, g0, g1⟩ := hP1
    have hl0 : w.heap.size < wr.heap.size := World.block_lt_of_cell? wr _ c0
    have hl1 : w.heap.size + 1 < wr.heap.size := World.block_lt_of_cell? wr _ d0
    by_cases hlt : k < n
    · have hor := ho.below hbel
      rcases hor.2 with h0 | ⟨b, off, rfl, hc⟩
      · omega
      have hlo : k < os.length := by rw [ho.1]; exact hlt
      obtain ⟨e1, e2⟩ := hc k hlo
      have HD : Hid (os.drop k = os[k] :: os.drop (k + 1)) := List.drop_eq_getElem_cons hlo
      generalize os[k] = o at e1 e2 HD
      clear hc
      have hlt' : (k : Int) < (n : Int) := by omega
      have hstep : toldR code os (sz, mg) = toldR code (os.drop (k + 1)) (told1 code (s, m) o) := by rw [HF.out, HD.out]; rfl
      have hbx := below_alloc wr (.cells #[.int .i64 o.1, .int .i64 o.2] 69)
      have hb1 := below_chain hbel hbx
      cases q4 : (code == 4)
      · cases q3 : (code == 3)
        · have hv : told1 code (s, m) o = (s, m) := by simp at q3 q4; simp [told1, q3, q4]
          rw [hv] at hstep
          have HS : Hid _ := hstep
          clear hstep hv
          go_wp2_with (fail)
          go_roundw
          case rel => exact ⟨k + 1, s, m, by omega, by go_num, HS.out, Q0.below hbx, Q1.below hbx, hb1⟩
          case measure => simp [intOf]; omega
        · have hcode : code = 3 := by simpa using q3
          have HS : Hid (toldR code os (sz, mg) = toldR code (os.drop (k + 1)) ((told1 3 (s, m) o).1, (told1 3 (s, m) o).2)) := by
            show _ = _
            rw [hstep, hcode]
          clear hstep hcode
          go_wp2_with (fail)
          refine (with_any s m o.1 o.2 _).mono ?_
          rintro e w1 ⟨rfl, hbw⟩
          have hb2 := below_chain hb1 hbw
          obtain ⟨c0, c1, f0, f1⟩ := (Q0.below hbx).below hbw
          obtain ⟨d0, d1, g0, g1⟩ := (Q1.below hbx).below hbw
          have hl0 : w.heap.size < w1.heap.size := World.block_lt_of_cell? w1 _ c0
          have R0 := (((Q0.below hbx).below hbw).set (told1 3 (s, m) (o.1, o.2)).1 (told1 3 (s, m) (o.1, o.2)).2)
          have R1 := (((Q1.below hbx).below hbw).other (B' := w.heap.size) (by omega) (.int .i64 (told1 3 (s, m) (o.1, o.2)).1) (.int .i64 (told1 3 (s, m) (o.1, o.2)).2))
          have hb3 : Below w.heap.size w ((w1.setCell ⟨w.heap.size, 0, none⟩ (.int .i64 (told1 3 (s, m) (o.1, o.2)).1)).setCell ⟨w.heap.size, 1, none⟩ (.int .i64 (told1 3 (s, m) (o.1, o.2)).2)) := (hb2.setCell (Nat.le_refl _) _).setCell (Nat.le_refl _) _
          go_wp2_with (fail)
          go_roundw
          case rel => exact ⟨k + 1, _, _, by omega, by go_num, HS.out, R0, R1, hb3⟩
          case measure => simp [intOf]; omega
      · have hcode : code = 4 := by simpa using q4
        have h41 : told1 4 (s, m) o = told1 4 (s, m) (o.1, 0) := by simp [told1]
        have HS : Hid (toldR code os (sz, mg) = toldR code (os.drop (k + 1)) ((told1 4 (s, m) (o.1, 0)).1, (told1 4 (s, m) (o.1, 0)).2)) := by
          show _ = _
          rw [hstep, hcode, h41]
        clear hstep hcode h41
        go_wp2_with (fail)
        refine (without_any s m o.1 _).mono ?_
        rintro e w1 ⟨rfl, hbw⟩
        have hb2 := below_chain hb1 hbw
        obtain ⟨c0, c1, f0, f1⟩ := (Q0.below hbx).below hbw
        obtain ⟨d0, d1, g0, g1⟩ := (Q1.below hbx).below hbw
        have hl0 : w.heap.size < w1.heap.size := World.block_lt_of_cell? w1 _ c0
        have R0 := (((Q0.below hbx).below hbw).set (told1 4 (s, m) (o.1, 0)).1 (told1 4 (s, m) (o.1, 0)).2)
        have R1 := (((Q1.below hbx).below hbw).other (B' := w.heap.size) (by omega) (.int .i64 (told1 4 (s, m) (o.1, 0)).1) (.int .i64 (told1 4 (s, m) (o.1, 0)).2))
        have hb3 : Below w.heap.size w ((w1.setCell ⟨w.heap.size, 0, none⟩ (.int .i64 (told1 4 (s, m) (o.1, 0)).1)).setCell ⟨w.heap.size, 1, none⟩ (.int .i64 (told1 4 (s, m) (o.1, 0)).2)) := (hb2.setCell (Nat.le_refl _) _).setCell (Nat.le_refl _) _
        go_wp2_with (fail)
        go_roundw
        case rel => exact ⟨k + 1, _, _, by omega, by go_num, HS.out, R0, R1, hb3⟩
        case measure => simp [intOf]; omega
    · have hdd : os.drop k = [] := List.drop_eq_nil_of_le (by rw [ho.1]; omega)
      have HS : Hid (toldR code os (sz, mg) = (s, m)) := by
        show _ = _
        rw [HF.out, hdd]
        rfl
      clear HF hdd
      have hb3 : Below w.heap.size w ((wr.setCell ⟨w.heap.size + 1, 0, none⟩ (.int .i64 s)).setCell ⟨w.heap.size + 1, 1, none⟩ (.int .i64 m)) := (hbel.setCell (by simp) _).setCell (by simp) _
      have R1 := Q1.set s m
      go_wp2_with (fail)
      rw [HS.out]
      obtain ⟨r0, r1, _, _⟩ := R1
      refine bodyPost_ret (v := .agg #[.int .i64 s, .int .i64 m]) (by simp [results, Tryd.results42, go_sem, r0, r1]) rfl ?_
      exact ⟨rfl, hb3⟩
end Go.Proofs.YtgfjgenkpfdofaaDoor
