/-
  told: what each state tells of its owner.
-/
import Derived.Test.YtielnomhdahciaaWaysMem
import Derived.BigQuiet
namespace Go.Proofs.Ytielnomhdahciaa
open Go.RowKit St

def putE (C : Grid) (o : Nat) (es : List Opt) : Grid := es.foldl (fun C e => updG C o e.1.toNat e.2) C
theorem putE_take (C : Grid) (o : Nat) (es : List Opt) (k : Nat) (h : k < es.length) : putE C o (es.take (k + 1)) = updG (putE C o (es.take k)) o (es[k].1.toNat) (es[k].2) := by
  unfold putE
  rw [List.take_succ_eq_append_getElem h, List.foldl_append]
  rfl
def tellF (S : Nat → SV) (E : Nat → List Opt) : Nat → Grid
  | 0 => fun _ _ => 0
  | i + 1 => putE (tellF S E i) (S i).own.toNat (E i)

set_option maxRecDepth 100000 in
set_option maxHeartbeats 4000000 in
theorem told_any (a : Option Addr) (n cap : Nat) (S : Nat → SV) (E : Nat → List Opt) (w : World) (h : StsR w a n S E) (hn : n ≤ 1000) (hok : ∀ j, j < n → stF (S j).own (S j).seq (E j) = 0) :
    Calls Try.prog 59 #[.slice a n cap] w fun e w' => e = .returned (.agg (gC (tellF S E n))) ∧ Below w.heap.size w w' := by
  have hz := zeroCosts
  have HOK : Hid _ := hok
  clear hok
  obtain ⟨Z, hZ⟩ : ∃ Z, gC (fun _ _ => 0) = Z := ⟨_, rfl⟩
  rw [hZ] at hz
  go_enter Try.func59, Try.ntmps59
  go_wp2_with (fail)
  obtain ⟨W0, hW0⟩ : ∃ W0, (w.alloc (.cells Z 100)).alloc (.cells Z 100) = W0 := ⟨_, rfl⟩
  have hb0 : Below w.heap.size w W0 := by rw [← hW0]; exact (below_alloc _ _).alloc (by simp) _
  have hB0 : Blk W0 w.heap.size Z 100 := by rw [← hW0]; exact (Blk.new w Z _).below (below_alloc _ _)
  have hB1 : Blk W0 (w.heap.size + 1) (gC (tellF S E 0)) 100 := by rw [← hW0]; show Blk _ _ (gC fun _ _ => 0) _; rw [hZ]; exact Blk.newN _ _ _ _ (by simp)
  rw [hW0]
  clear hW0
  obtain ⟨C0, hC0⟩ : ∃ C0, w.heap.size = C0 := ⟨_, rfl⟩
  have hl0 : w.heap.size ≤ C0 := by omega
  rw [hC0] at hB0 hB1
  rw [hC0]
  clear hC0
  go_loopw [10] (fun v wr => ∃ i : Nat, i ≤ n ∧ v = .int .i64 i ∧ Blk wr (C0 + 1) (gC (tellF S E i)) 100 ∧ Blk wr C0 Z 100 ∧ Below w.heap.size w wr) (fun v _ => n - (intOf v).toNat)
  case atStart => exact ⟨0, Nat.zero_le _, rfl, hB1, hB0, hb0⟩
  case round =>
    clear hB0 hB1 hb0
    obtain ⟨i, hi, rfl, hG, hZb, hbel⟩ := hrel
    by_cases hlt : i < n
    · have hlt' : (i : Int) < (n : Int) := by omega
      have hw := h.below hbel
      obtain ⟨ho, hz1, hx⟩ := hw.opt i hlt
      have hrow := hw.row
      rcases hrow with h1 | ⟨sb, off, rfl, hcs⟩
      · omega
      obtain ⟨c0, c1, c2⟩ := hcs i hlt
      have hstf := HOK.out i hlt
      have HOW := (h.opt i hlt).1
      have HT : Hid (tellF S E (i + 1) = putE (tellF S E i) (S i).own.toNat (E i)) := rfl
      obtain ⟨s, hs⟩ : ∃ s, S i = s := ⟨_, rfl⟩
      obtain ⟨es, he⟩ : ∃ es, E i = es := ⟨_, rfl⟩
      rw [hs] at c0 c1 c2 ho hz1 hx hstf HT HOW
      rw [he] at ho hstf HT HOW
      clear hs he hcs hw
      obtain ⟨so, sq, sa, sn, sc⟩ := s
      simp only at c0 c1 c2 ho hz1 hx hstf HT HOW
      have hso := (stF_zero hstf).1
      obtain ⟨o, rfl⟩ : ∃ o : Nat, so = (o : Int) := ⟨so.toNat, by omega⟩
      rw [Int.toNat_natCast] at HT
      have hes := edgF_all _ es 0 (stF_zero hstf).2.2.2
      have HES : Hid _ := hes
      have HOL := ho.1
      have hsn : sn ≤ 6 := by have := (stF_zero hstf).2.2.1; omega
      have hba := hbel.alloc hbel.size (.cells #[.int .i64 (o : Int), .int .i64 sq, .slice sa sn sc] 35)
      have hck := check_all (o : Int) sq sa sn sc es _ hx (HOW.below hba)
      have hE0 : Hid (errV (stF (o : Int) sq es) = .nilIface) := by show _ = _; rw [hstf]; rfl
      rw [hE0.out] at hck
      have hX := Blk.new wr #[.int .i64 (o : Int), .int .i64 sq, .slice sa sn sc] 35
      have hG2 := hG.below (below_alloc wr (.cells #[.int .i64 (o : Int), .int .i64 sq, .slice sa sn sc] 35))
      have hZ2 := hZb.below (below_alloc wr (.cells #[.int .i64 (o : Int), .int .i64 sq, .slice sa sn sc] 35))
      have Hba : Hid _ := hba
      have Hwl : Hid (C0 + 1 < wr.heap.size) := hG.lt
      have Hlw : Hid _ := hbel.size
      have HX : Hid _ := hX
      have HG2 : Hid _ := hG2
      have HZ2 : Hid _ := hZ2
      clear hes hstf hbel hG hZb hX hG2 hZ2 ho hz1 hx hba
      go_wp2_with (fail)
      refine hck.mono ?_
      rintro e w1 ⟨rfl, k1⟩
      have hX1 := Blk.below HX.out k1
      have HG1 : Hid _ := Blk.below HG2.out k1
      have HZ1 : Hid _ := Blk.below HZ2.out k1
      have Hb1 : Hid _ := below_chain Hba.out k1
      obtain ⟨X, hXe⟩ : ∃ X, wr.heap.size = X := ⟨_, rfl⟩
      rw [hXe] at hX1
      have Hwl2 : Hid (C0 + 1 < X) := by show _ < _; rw [← hXe]; exact Hwl.out
      have Hlw2 : Hid (w.heap.size ≤ X) := by show _ ≤ _; rw [← hXe]; exact Hlw.out
      rw [hXe]
      have x0 : w1.cell? ⟨X, 0, none⟩ = some (.int .i64 (o : Int)) := hX1.cell 0
      have x1 : w1.cell? ⟨X, 1, none⟩ = some (.int .i64 sq) := hX1.cell 1
      have x2 : w1.cell? ⟨X, 2, none⟩ = some (.slice sa sn sc) := hX1.cell 2
      have HX1 : Hid _ := hX1
      clear hck k1 hXe hX1 HX HG2 HZ2 Hba Hwl Hlw c0 c1 c2
      go_wp2_with (fail)
      obtain ⟨W1, rfl⟩ : ∃ W1, W1 = w1 := ⟨_, rfl⟩
      clear x0 x1 x2
      go_loopw [20] (fun v wr => ∃ k : Nat, k ≤ sn ∧ v = .int .i64 k ∧ Blk wr (C0 + 1) (gC (putE (tellF S E i) o (es.take k))) 100 ∧ Blk wr C0 Z 100 ∧ Blk wr X #[.int .i64 (o : Int), .int .i64 sq, .slice sa sn sc] 35 ∧ Below w.heap.size w wr) (fun v _ => sn - (intOf v).toNat)
      case atStart => exact ⟨0, Nat.zero_le _, rfl, HG1.out, HZ1.out, HX1.out, Hb1.out⟩
      case round =>
        clear HG1 HZ1 HX1 Hb1
        obtain ⟨k, hk, rfl, hG, hZb, hX, hbel⟩ := hrel
        by_cases hkn : k < sn
        · have hkn' : (k : Int) < (sn : Int) := by omega
          have hoe := HOW.below hbel
          rcases hoe.2 with h1 | ⟨eb, eoff, rfl, hec⟩
          · omega
          obtain ⟨d0, d1⟩ := hec k (by omega)
          have hrg := HES.out _ (List.getElem_mem (show k < es.length by omega))
          have HP : Hid (putE (tellF S E i) o (es.take (k + 1)) = updG (putE (tellF S E i) o (es.take k)) o ((es[k]'(by omega)).1.toNat) ((es[k]'(by omega)).2)) := putE_take _ o es k (by omega)
          obtain ⟨p, hp⟩ : ∃ p, es[k]'(by omega) = p := ⟨_, rfl⟩
          rw [hp] at d0 d1 hrg HP
          obtain ⟨pt, pm⟩ := p
          simp only at d0 d1 hrg HP
          obtain ⟨t, rfl⟩ : ∃ t : Nat, pt = (t : Int) := ⟨pt.toNat, by omega⟩
          rw [Int.toNat_natCast] at HP
          obtain ⟨W2, hW2⟩ : ∃ W2, wr.alloc (.cells #[.int .i64 (t : Int), .int .i64 pm] 93) = W2 := ⟨_, rfl⟩
          have kb : Below wr.heap.size wr W2 := by rw [← hW2]; exact below_alloc _ _
          have hY : Blk W2 wr.heap.size #[.int .i64 (t : Int), .int .i64 pm] 93 := by rw [← hW2]; exact Blk.new _ _ _
          have hG3 := hG.below kb
          have hX3 := hX.below kb
          have Hb3 : Hid _ := below_chain hbel kb
          have HZ3 : Hid _ := hZb.below kb
          have HW2 : Hid _ := hW2
          clear hec hp hoe hW2
          obtain ⟨Y, hYe⟩ : ∃ Y, wr.heap.size = Y := ⟨_, rfl⟩
          have HYl : Hid (X < Y) := by show _ < _; rw [← hYe]; exact hX.lt
          rw [hYe] at hY
          have HYe : Hid _ := hYe
          clear hYe kb hG hX hZb hbel
          have y0 : W2.drew.cell? ⟨Y, 0, none⟩ = some (.int .i64 (t : Int)) := hY.cell 0
          have y1 : W2.drew.cell? ⟨Y, 1, none⟩ = some (.int .i64 pm) := hY.cell 1
          have z0 : W2.drew.cell? ⟨X, 0, none⟩ = some (.int .i64 (o : Int)) := hX3.cell 0
          have g0 : W2.drew.cell? ⟨C0 + 1, o * 7 + t, none⟩ = some (.int .i64 (putE (tellF S E i) o (es.take k) o t)) := (hG3.cell _).trans (gC_get _ o t (by omega) (by omega))
          have g1 : W2.drew.frozen? ⟨C0 + 1, o * 7 + t, none⟩ = false := hG3.frozen _
          have o7 : (o : Int) < 7 := by omega
          have t7 : (t : Int) < 7 := by omega
          have HG3 : Hid _ := hG3
          have HX3 : Hid _ := hX3
          have HY3 : Hid _ := hY
          clear hG3 hX3 hY hrg hso
          go_upto_region 9 with fail
          rw [HW2.out, HYe.out]
          go_region
          all_goals
            go_wp2_with (fail)
            go_roundw
            case rel =>
              have hne : X ≠ C0 + 1 := by have := Hwl2.out; omega
              refine ⟨k + 1, by omega, by go_num, ?_, ?_, ?_, ?_⟩
              · rw [HP.out, ← gC_set _ o t pm (by omega)]
                exact Blk.set HG3.out _ _
              · exact Blk.other HZ3.out (by omega) _
              · exact Blk.other HX3.out hne _
              · exact below_drewN (Below.setCell Hb3.out (by show w.heap.size ≤ C0 + 1; omega) _) 1
            case measure => simp [intOf]; omega
        · have hge : ¬ (k : Int) < (sn : Int) := by omega
          have HG : Hid _ := hG
          have HZ : Hid _ := hZb
          have HB : Hid _ := hbel
          clear hG hZb hX hbel
          go_wp2_with (fail)
          go_roundw
          case rel =>
            refine ⟨i + 1, by omega, by go_num, ?_, HZ.out, HB.out⟩
            have e1 : es.take k = es := List.take_of_length_le (by omega)
            rw [HT.out, ← e1]
            exact HG.out
          case measure => simp [intOf]; omega
    · have hin : i = n := by omega
      subst hin
      have hge : ¬ (i : Int) < (i : Int) := by omega
      clear hlt
      obtain ⟨g, hg⟩ : ∃ g, gC (tellF S E i) = g := ⟨_, rfl⟩
      have gs : g.size = 49 := by rw [← hg]; exact gC_size _
      have g1 : g.all (·.oneCell') = true := by rw [← hg]; exact gC_one _
      have zs : Z.size = 49 := by rw [← hZ]; exact gC_size _
      rw [hg] at hG
      have HGE : Hid (g = gC (tellF S E i)) := hg.symm
      have hR : Blk (wr.setRow C0 g) C0 g 100 := hZb.setRow
      have l6 := run_loadVar_row (P := Try.prog) (wr.setRow C0 g) C0 100 100 g (0, 0) _ hR Try.underlying100 rfl (by rw [gs]; exact size100)
      have HBE : Hid (Below w.heap.size w (wr.setRow C0 g)) := below_setRow hbel hl0 g
      have hi1 : (Try.prog.info? 100).map (·.size) = some g.size := by rw [gs]; exact size100
      have hsz : Z.size = g.size := by rw [gs, zs]
      clear hR hg hZ hbel
      go_wp2_with (first
        | refine wpList_load_blk _ rfl (.tmp 3) 100 rfl (C0 + 1) g _ _ rfl hG Try.underlying100 hi1 ?_
        | refine wpList_store_blk _ rfl (.tmp 2) (.tmp 34) 100 rfl C0 Z g rfl rfl hZb hsz hi1 g1 ?_)
      refine bodyPost_ret (v := .agg g) (by simp [results, Try.results59, asAddr, l6]) rfl ?_
      exact ⟨by rw [HGE.out], HBE.out⟩
end Go.Proofs.Ytielnomhdahciaa
