/-
  PolicyWalk3 FrAll FrReading FrFrames WaysBoth WaysEdge WaysList BaseStill
-/
import Derived.Test.YtieklnlbljejdaaGreatDoorG03
import Derived.Test.YtieklnlbljejdaaGreatDoorG06
import Derived.Test.YtieklnlbljejdaaGreatDoorG07
import Derived.Test.YtieklnlbljejdaaGreatDoorG16
import Derived.Test.YtieklnlbljejdaaGreatDoorG17
import Derived.BigQuiet
namespace Go.Proofs.YtieklnlbljejdaaGreatDoor
open Go.RowKit
theorem Pol.set {w : World} {B : Nat} {s m : Int} (h : Pol w B s m) (s' m' : Int) : Pol ((w.setCell ⟨B, 0, none⟩ (.int .i64 s')).setCell ⟨B, 1, none⟩ (.int .i64 m')) B s' m' := by
 refine ⟨?_, ?_, ?_, ?_⟩
 · exact (World.cell?_setCell_other _ ⟨B, 1, none⟩ ⟨B, 0, none⟩ _ (by simp)).trans (World.cell?_setCell_same' _ _ _ (by rw [h.c0]; rfl))
 · exact World.cell?_setCell_same' _ _ _ (by rw [World.cell?_setCell_other _ ⟨B, 0, none⟩ ⟨B, 1, none⟩ _ (by simp), h.c1]; rfl)
 · simp [h.f0]
 · simp [h.f1]
theorem Pol.other {w : World} {B B' : Nat} {s m : Int} (h : Pol w B s m) (hne : B' ≠ B) (x y : Value) : Pol ((w.setCell ⟨B', 0, none⟩ x).setCell ⟨B', 1, none⟩ y) B s m := by
 refine ⟨?_, ?_, ?_, ?_⟩
 · rw [World.cell?_setCell_far _ _ _ _ hne, World.cell?_setCell_far _ _ _ _ hne]; exact h.c0
 · rw [World.cell?_setCell_far _ _ _ _ hne, World.cell?_setCell_far _ _ _ _ hne]; exact h.c1
 · simp [h.f0]
 · simp [h.f1]
set_option maxRecDepth 100000 in
set_option maxHeartbeats 2000000 in
theorem told_any (sz mg code : Int) (a : Option Addr) (n cap : Nat) (os : List Opt) (w : World) (hn : n ≤ 1000000) (ho : OptR w a n os) :
 Calls Tryz.prog 231 #[.agg #[.int .i64 sz, .int .i64 mg], .int .i64 code, .slice a n cap] w fun e w' =>
  e = .returned (.agg #[.int .i64 (toldR code os (sz, mg)).1, .int .i64 (toldR code os (sz, mg)).2]) ∧ Below w.heap.size w w' := by
 have hz := zeroPol
 have P0 : Pol ((w.alloc (.cells #[.int .i64 sz, .int .i64 mg] 252)).alloc (.cells #[.int .i64 0, .int .i64 0] 252)) w.heap.size sz mg := by
  have hA := fun j => World.cell?_alloc_mark w #[.int .i64 sz, .int .i64 mg] 252 (0, 0) j
  have hF := fun j => World.frozen?_alloc_mark w #[.int .i64 sz, .int .i64 mg] 252 0 0 j
  exact Pol.below ⟨hA 0, hA 1, by rw [hF]; rfl, by rw [hF]; rfl⟩ (below_alloc _ _)
 have P1 : Pol ((w.alloc (.cells #[.int .i64 sz, .int .i64 mg] 252)).alloc (.cells #[.int .i64 0, .int .i64 0] 252)) (w.heap.size + 1) 0 0 := by
  have hA := fun j => World.cell?_alloc_mark (w.alloc (.cells #[.int .i64 sz, .int .i64 mg] 252)) #[.int .i64 0, .int .i64 0] 252 (0, 0) j
  have hF := fun j => World.frozen?_alloc_mark (w.alloc (.cells #[.int .i64 sz, .int .i64 mg] 252)) #[.int .i64 0, .int .i64 0] 252 0 0 j
  have e : (w.alloc (.cells #[.int .i64 sz, .int .i64 mg] 252)).heap.size = w.heap.size + 1 := by simp
  rw [e] at hA hF
  exact ⟨hA 0, hA 1, by rw [hF]; rfl, by rw [hF]; rfl⟩
 have hw0 : Below w.heap.size w ((w.alloc (.cells #[.int .i64 sz, .int .i64 mg] 252)).alloc (.cells #[.int .i64 0, .int .i64 0] 252)) := (below_alloc _ _).alloc (by simp) _
 go_enter Tryz.func231, Tryz.ntmps231
 go_wp2_with (fail)
 go_loopw [11] (fun i wr => ∃ (k : Nat) (s m : Int), k ≤ n ∧ i = .int .i64 k ∧ toldR code os (sz, mg) = toldR code (os.drop k) (s, m) ∧ Pol wr w.heap.size s m ∧ Pol wr (w.heap.size + 1) 0 0 ∧ Below w.heap.size w wr) (fun i _ => n - (intOf i).toNat)
 case atStart => exact ⟨0, sz, mg, Nat.zero_le _, rfl, rfl, P0, P1, hw0⟩
 case round =>
  obtain ⟨k, s, m, hk, rfl, hT0, hP, hP1, hbel⟩ := hrel
  have HF : Hid _ := hT0
  clear hT0 P0 P1
  have Q0 := hP
  have Q1 := hP1
  obtain ⟨c0, c1, f0, f1⟩ := hP
  obtain ⟨d0, d1, g0, g1⟩ := hP1
  have hl0 : w.heap.size < wr.heap.size := World.block_lt_of_cell? wr _ c0
  have hl1 : w.heap.size + 1 < wr.heap.size := World.block_lt_of_cell? wr _ d0
  by_cases hlt : k < n
  · have hor := ho.below hbel
    rcases hor.2 with h0 | ⟨b, off, rfl, hc⟩
    · omega
    have hlo : k < os.length := by rw [ho.1]; exact hlt
    obtain ⟨e1, e2⟩ := hc k hlo
    have HD : Hid (os.drop k = os[k] :: os.drop (k + 1)) := List.drop_eq_getElem_cons hlo
    generalize os[k] = o at e1 e2 HD
    clear hc
    have hlt' : (k : Int) < (n : Int) := by omega
    have hstep : toldR code os (sz, mg) = toldR code (os.drop (k + 1)) (told1 code (s, m) o) := by rw [HF.out, HD.out]; rfl
    have hbx := below_alloc wr (.cells #[.int .i64 o.1, .int .i64 o.2] 276)
    have hb1 := below_chain hbel hbx
    cases q4 : (code == 4)
    · cases q3 : (code == 3)
      · have hv : told1 code (s, m) o = (s, m) := by simp at q3 q4; simp [told1, q3, q4]
        rw [hv] at hstep
        have HS : Hid _ := hstep
        clear hstep hv
        go_wp2_with (fail)
        go_roundw
        case rel => exact ⟨k + 1, s, m, by omega, by go_num, HS.out, Q0.below hbx, Q1.below hbx, hb1⟩
        case measure => simp [intOf]; omega
      · have hcode : code = 3 := by simpa using q3
        have HS : Hid (toldR code os (sz, mg) = toldR code (os.drop (k + 1)) ((told1 3 (s, m) o).1, (told1 3 (s, m) o).2)) := by
         show _ = _
         rw [hstep, hcode]
        clear hstep hcode
        go_wp2_with (fail)
        refine (with_any s m o.1 o.2 _).mono ?_
        rintro e w1 ⟨rfl, hbw⟩
        have hb2 := below_chain hb1 hbw
        obtain ⟨c0, c1, f0, f1⟩ := (Q0.below hbx).below hbw
        obtain ⟨d0, d1, g0, g1⟩ := (Q1.below hbx).below hbw
        have hl0 : w.heap.size < w1.heap.size := World.block_lt_of_cell? w1 _ c0
        have R0 := (((Q0.below hbx).below hbw).set (told1 3 (s, m) (o.1, o.2)).1 (told1 3 (s, m) (o.1, o.2)).2)
        have R1 := (((Q1.below hbx).below hbw).other (B' := w.heap.size) (by omega) (.int .i64 (told1 3 (s, m) (o.1, o.2)).1) (.int .i64 (told1 3 (s, m) (o.1, o.2)).2))
        have hb3 : Below w.heap.size w ((w1.setCell ⟨w.heap.size, 0, none⟩ (.int .i64 (told1 3 (s, m) (o.1, o.2)).1)).setCell ⟨w.heap.size, 1, none⟩ (.int .i64 (told1 3 (s, m) (o.1, o.2)).2)) := (hb2.setCell (Nat.le_refl _) _).setCell (Nat.le_refl _) _
        go_wp2_with (fail)
        go_roundw
        case rel => exact ⟨k + 1, _, _, by omega, by go_num, HS.out, R0, R1, hb3⟩
        case measure => simp [intOf]; omega
    · have hcode : code = 4 := by simpa using q4
      have h41 : told1 4 (s, m) o = told1 4 (s, m) (o.1, 0) := by simp [told1]
      have HS : Hid (toldR code os (sz, mg) = toldR code (os.drop (k + 1)) ((told1 4 (s, m) (o.1, 0)).1, (told1 4 (s, m) (o.1, 0)).2)) := by
       show _ = _
       rw [hstep, hcode, h41]
      clear hstep hcode h41
      go_wp2_with (fail)
      refine (without_any s m o.1 _).mono ?_
      rintro e w1 ⟨rfl, hbw⟩
      have hb2 := below_chain hb1 hbw
      obtain ⟨c0, c1, f0, f1⟩ := (Q0.below hbx).below hbw
      obtain ⟨d0, d1, g0, g1⟩ := (Q1.below hbx).below hbw
      have hl0 : w.heap.size < w1.heap.size := World.block_lt_of_cell? w1 _ c0
      have R0 := (((Q0.below hbx).below hbw).set (told1 4 (s, m) (o.1, 0)).1 (told1 4 (s, m) (o.1, 0)).2)
      have R1 := (((Q1.below hbx).below hbw).other (B' := w.heap.size) (by omega) (.int .i64 (told1 4 (s, m) (o.1, 0)).1) (.int .i64 (told1 4 (s, m) (o.1, 0)).2))
      have hb3 : Below w.heap.size w ((w1.setCell ⟨w.heap.size, 0, none⟩ (.int .i64 (told1 4 (s, m) (o.1, 0)).1)).setCell ⟨w.heap.size, 1, none⟩ (.int .i64 (told1 4 (s, m) (o.1, 0)).2)) := (hb2.setCell (Nat.le_refl _) _).setCell (Nat.le_refl _) _
      go_wp2_with (fail)
      go_roundw
      case rel => exact ⟨k + 1, _, _, by omega, by go_num, HS.out, R0, R1, hb3⟩
      case measure => simp [intOf]; omega
  · have hdd : os.drop k = [] := List.drop_eq_nil_of_le (by rw [ho.1]; omega)
    have HS : Hid (toldR code os (sz, mg) = (s, m)) := by
     show _ = _
     rw [HF.out, hdd]
     rfl
    clear HF hdd
    have hb3 : Below w.heap.size w ((wr.setCell ⟨w.heap.size + 1, 0, none⟩ (.int .i64 s)).setCell ⟨w.heap.size + 1, 1, none⟩ (.int .i64 m)) := (hbel.setCell (by simp) _).setCell (by simp) _
    have R1 := Q1.set s m
    go_wp2_with (fail)
    rw [HS.out]
    obtain ⟨r0, r1, _, _⟩ := R1
    refine bodyPost_ret (v := .agg #[.int .i64 s, .int .i64 m]) (by simp [results, Tryz.results231, go_sem, r0, r1]) rfl ?_
    exact ⟨rfl, hb3⟩
end Go.Proofs.YtieklnlbljejdaaGreatDoor

namespace Go.Proofs.YtieklnlbljejdaaGreatDoor
open Go.RowKit Plain
abbrev RState := List UInt8 × Bool × Bool
def stepA (a : List (List UInt8) × Nat × RState) (c : UInt8) : List (List UInt8) × Nat × RState :=
 let t := ftakeA a.2.2.1 a.2.2.2.1 a.2.2.2.2 c
 let r := ftakeR a.2.2.1 a.2.2.2.1 a.2.2.2.2 c
 if t.2.2 ≠ 0 then (a.1, a.2.1 + 1, r) else if t.2.1 = true then (a.1 ++ [t.1], a.2.1, r) else (a.1, a.2.1, r)
def allR (st : RState) (l : List UInt8) : List (List UInt8) × Nat × RState := l.foldl stepA ([], 0, st)
def strs (l : List (List UInt8)) : List Value := l.map fun s => Value.string ⟨s.toArray⟩
theorem allR_snoc (st : RState) (l : List UInt8) (c : UInt8) : allR st (l ++ [c]) = stepA (allR st l) c := by simp [allR]
theorem stepA_le (a : List (List UInt8) × Nat × RState) (c : UInt8) : (stepA a c).1.length + (stepA a c).2.1 ≤ a.1.length + a.2.1 + 1 := by
 unfold stepA
 simp only
 split
 · simp only; omega
 · split
   · simp only [List.length_append, List.length_cons, List.length_nil]; omega
   · simp only; omega
theorem foldl_le : ∀ (l : List UInt8) (a : List (List UInt8) × Nat × RState), (l.foldl stepA a).1.length + (l.foldl stepA a).2.1 ≤ a.1.length + a.2.1 + l.length
 | [], a => by simp
 | c :: l, a => by
   have h1 := foldl_le l (stepA a c)
   have h2 := stepA_le a c
   simp only [List.foldl_cons, List.length_cons]
   omega
theorem allR_le (st : RState) (l : List UInt8) : (allR st l).1.length + (allR st l).2.1 ≤ l.length := by
 have := foldl_le l ([], 0, st)
 unfold allR
 simp only [List.length_nil] at this
 omega
theorem infoStr : (Tryz.prog.info? 9).map (fun i => (i.zero, i.size, i.bytes)) = some (some (.string ByteArray.empty), 1, 16) := by kernel_rfl
theorem all_step {w w1 w2 : World} {g o : Nat} {v : Value} {ob : Obj} {g2 n cap2 : Nat} {l : List UInt8} {e d : Bool} (hbw : g < w.heap.size) (hnew : ∀ k, v.ownBlock = some k → w.heap.size ≤ k) (hR : Rd w1 g o l e d) (hg : KeptC w w1 g o 65)
 (hgr : (w1.alloc ob).grownBy w2 v.ownBlock) (hown : v.ownBlock = some g2 ∨ w1.heap.size + 1 ≤ g2) :
 (∀ k, Value.ownBlock (.slice (some ⟨g2, 0, none⟩) n cap2) = some k → w.heap.size ≤ k) ∧ Rd w2 g o l e d ∧ KeptC w w2 g o 65 := by
 have hs := hg.size
 have hs1 : (w1.alloc ob).heap.size = w1.heap.size + 1 := by simp
 have hk : ∀ k, k < w.heap.size → w2.heap[k]? = w1.heap[k]? := fun k hk => by
  rw [hgr.block k (by omega) (fun e => by have := hnew k e.symm; omega)]
  exact Below.heap_alloc w1 ob k (by omega)
 refine ⟨fun k hk => ?_, ?_, ⟨hgr.os.trans hg.os, hgr.tape.trans hg.tape, hgr.output.trans hg.output, by have := hgr.size; omega, fun k h1 h2 => (hk k h1).trans (hg.block k h1 h2), fun j hj => (World.cell?_of_block (a := ⟨g, j, none⟩) (hk g hbw)).trans (hg.cell j hj), fun j => (World.frozen?_of_block (a := ⟨g, j, none⟩) (hk g hbw)).trans (hg.fz j)⟩⟩
 · have : g2 = k := by simpa [Value.ownBlock] using hk
   rcases hown with h | h
   · have := hnew g2 h; omega
   · omega
 · obtain ⟨F, hC, h2⟩ := hR
   exact ⟨F, hC.keep (hk g hbw), h2⟩
set_option maxRecDepth 100000 in
set_option maxHeartbeats 2000000 in
theorem fall_any (g o : Nat) (st : RState) (s : ByteArray) (w : World) (h : Rd w g o st.1 st.2.1 st.2.2) (hs : s.size ≤ 100000) :
 Calls Tryz.prog 78 #[.pointer (some ⟨g, o, none⟩), .string s] w fun e w' => ∃ v, e = .returned (.tuple #[v, .int .i64 ((allR st s.data.toList).2.1 : Int)]) ∧
  Row w' 1 v (allR st s.data.toList).1.length (strs (allR st s.data.toList).1) ∧ (∀ k, v.ownBlock = some k → w.heap.size ≤ k) ∧ ((allR st s.data.toList).1 = [] → v = .slice none 0 0) ∧
  Rd w' g o (allR st s.data.toList).2.2.1 (allR st s.data.toList).2.2.2.1 (allR st s.data.toList).2.2.2.2 ∧ KeptC w w' g o 65 := by
 obtain ⟨i0, hi, hz0, hz1, hz2⟩ := info_parts infoStr
 have hbw : g < w.heap.size := by
  obtain ⟨F, hC, _⟩ := h
  exact hC.lt (by decide)
 go_enter Tryz.func78, Tryz.ntmps78
 go_wp2
 go_loopw [4, 5, 12] (fun v n i wr => ∃ (k : Nat) (A : List (List UInt8) × Nat × RState), A = allR st (s.data.toList.take k) ∧ k ≤ s.size ∧ i = .int .i64 k ∧ n = .int .i64 (A.2.1 : Int) ∧
  Row wr 1 v A.1.length (strs A.1) ∧ (∀ k, v.ownBlock = some k → w.heap.size ≤ k) ∧ (A.1 = [] → v = .slice none 0 0) ∧ Rd wr g o A.2.2.1 A.2.2.2.1 A.2.2.2.2 ∧ KeptC w wr g o 65)
  (fun _ _ i _ => s.size - (intOf i).toNat)
 case atStart => exact ⟨0, _, rfl, Nat.zero_le _, rfl, rfl, Row.nil _ _, fun k hk => by simp [Value.ownBlock] at hk, fun _ => rfl, h, KeptC.refl _ _ _ _⟩
 case round =>
  obtain ⟨k, A, hA, hk, rfl, rfl, hrow, hnew, hnil0, hR, hg⟩ := hrel
  have hnil : Hid (A.1 = [] → u4 = .slice none 0 0) := hnil0
  clear hnil0
  have HL : Hid (A.1.length + A.2.1 ≤ k) := by
   have := allR_le st (s.data.toList.take k)
   rw [← hA] at this
   have h2 : (s.data.toList.take k).length ≤ k := List.length_take_le _ _
   exact (by omega : A.1.length + A.2.1 ≤ k)
  have HA : Hid (A = allR st (s.data.toList.take k)) := hA
  clear hA h
  by_cases hlt : k < s.size
  · obtain ⟨t, dn, er, hT⟩ : ∃ t dn er, ftakeA A.2.2.1 A.2.2.2.1 A.2.2.2.2 s[k] = (t, dn, er) := ⟨_, _, _, rfl⟩
    obtain ⟨R', hR'⟩ : ∃ R', ftakeR A.2.2.1 A.2.2.2.1 A.2.2.2.2 s[k] = R' := ⟨_, rfl⟩
    have hcall : Calls Tryz.prog 132 #[.pointer (some ⟨g, o, none⟩), .int .u8 (s[k].toNat : Int)] wr fun e' w' => e' = .returned (.tuple #[.string ⟨t.toArray⟩, .bool dn, errV er]) ∧
     Row w' 1 u4 A.1.length (strs A.1) ∧ Rd w' g o R'.1 R'.2.1 R'.2.2 ∧ KeptC w w' g o 65 := by
     have hq := ftake_any g o A.2.2.1 A.2.2.2.1 A.2.2.2.2 s[k] wr hR
     rw [hT, hR'] at hq
     refine hq.mono fun e' w' ⟨h1, h2, h3⟩ => ⟨h1, hrow.keep h3.size (fun j hj => h3.block j (hrow.lt j hj) (fun e1 => by have := hnew j hj; omega)), h2, hg.trans h3⟩
    have HN0 : (allR st (s.data.toList.take (k + 1)) = if er ≠ 0 then (A.1, A.2.1 + 1, R') else if dn = true then (A.1 ++ [t], A.2.1, R') else (A.1, A.2.1, R')) := by
     have : s.data.toList.take (k + 1) = s.data.toList.take k ++ [s[k]] := take_snoc s k hlt
     rw [this, allR_snoc, ← HA.out]
     unfold stepA
     simp only [hT, hR']
    have HN : Hid _ := HN0
    clear HN0
    have hn : A.2.1 ≤ 100000 := by have := HL.out; omega
    clear hT hR' hrow hR hg
    by_cases her : er = 0
    · subst her
      have e0 : errV 0 = .nilIface := rfl
      rw [e0] at hcall
      clear e0
      cases dn
      · go_wp2_with (go_at_call 132; refine hcall.mono ?_; rintro e w1 ⟨rfl, hrow1, hR1, hg1⟩)
        go_roundw
        case rel => exact ⟨k + 1, _, HN.out.symm, by omega, by go_num, rfl, hrow1, hnew, hnil.out, hR1, hg1⟩
        case measure => simp [intOf]; omega
      · have m1 : A.1.length + 1 ≤ maxLen := by have := HL.out; unfold maxLen; omega
        have b1 : (A.1.length + 1) * 16 ≤ 140737488355328 := by have := HL.out; omega
        go_wp2_with (first
         | (go_at_call 132; refine hcall.mono ?_; rintro e w1 ⟨rfl, hrow1, hR1, hg1⟩)
         | (at_builtin; go_must (refine wpList_append_row _ rfl (.tmp 29) (.tmp 31) 164 rfl 9 i0 (.string ByteArray.empty) 1 16 Tryz.underlying164 hi hz0 hz1 hz2 rfl (by decide) u4 A.1.length (strs A.1) rfl (Row.alloc (by assumption) _) _ 1 1 [.string ⟨t.toArray⟩] rfl rfl (by decide) (cells_one _ _ _) (one_string _) m1 b1 ?_)))
        intro g2 cap2 w2 hr2 hgr2 hown2
        have hS := all_step (n := A.1.length + 1) (cap2 := cap2) hbw hnew hR1 hg1 hgr2 hown2
        clear hgr2 hown2 hrow1 hR1 hg1
        go_wp2
        go_roundw
        case rel => exact ⟨k + 1, (A.1 ++ [t], A.2.1, R'), by rw [HN.out]; rfl, by omega, by go_num, rfl, by simpa [strs] using hr2, hS.1, fun h => by simp at h, hS.2.1, hS.2.2⟩
        case measure => simp [intOf]; omega
    · have e0 : errV er = .iface 128 (.int .i64 (er : Int)) := by simp [errV, her]
      rw [e0] at hcall
      clear e0
      go_wp2_with (go_at_call 132; refine hcall.mono ?_; rintro e w1 ⟨rfl, hrow1, hR1, hg1⟩)
      go_roundw
      case rel => exact ⟨k + 1, (A.1, A.2.1 + 1, R'), by rw [HN.out, if_pos her], by omega, by go_num, by go_num, hrow1, hnew, hnil.out, hR1, hg1⟩
      case measure => simp [intOf]; omega
  · go_wp2
    have hA : allR st s.data.toList = A := by
     rw [HA.out, List.take_of_length_le]
     show s.size ≤ k
     omega
    rw [hA]
    go_ret2
    exact ⟨u4, rfl, hrow, hnew, hnil.out, hR, hg⟩
end Go.Proofs.YtieklnlbljejdaaGreatDoor

namespace Go.Proofs.YtieklnlbljejdaaGreatDoor
open Go.RowKit Plain
theorem extract_mid (s : ByteArray) (a b : Nat) : (s.extract a b).data.toList = (s.data.toList.take b).drop a := by
 rw [ByteArray.data_extract]
 simp [List.drop_take]
end Go.Proofs.YtieklnlbljejdaaGreatDoor

namespace Go.Proofs.YtieklnlbljejdaaGreatDoor
open Go.RowKit Plain
theorem frameL_length (l : List UInt8) : (frameL l).length = (escL (withSum l)).length + 2 := by simp [frameL]
theorem frameL_le (l : List UInt8) (h : l.length ≤ 60) : (frameL l).length ≤ 126 := by
 rw [frameL_length]
 have := escL_le (withSum l)
 rw [withSum_length] at this
 omega
end Go.Proofs.YtieklnlbljejdaaGreatDoor

namespace Go.Proofs.YtieklnlbljejdaaGreatDoor
open Go.RowKit St
theorem gC_congr {C D : Grid} (h : ∀ x y, x < 7 → y < 7 → C x y = D x y) : gC C = gC D := by
 apply Array.ext_getElem?
 intro i
 by_cases hi : i < 49
 · rw [gC_at _ i hi, gC_at _ i hi, h (i / 7) (i % 7) (by omega) (by omega)]
 · rw [Array.getElem?_eq_none (by rw [gC_size]; omega), Array.getElem?_eq_none (by rw [gC_size]; omega)]
def bothG (C : Grid) : Grid := fun x y => if 0 < C y x then C x y else 0
def bwF (C : Grid) (a b : Nat) : Grid := fun x y => if x < a ∨ (x = a ∧ y < b) then bothG C x y else 0
theorem bwF_step (C : Grid) (a b : Nat) : gC (bwF C a (b + 1)) = gC (updG (bwF C a b) a b (bothG C a b)) := by
 refine gC_congr fun x y hx hy => ?_
 simp only [bwF, updG]
 by_cases h1 : x = a ∧ y = b
 · rw [if_pos h1, if_pos (by omega), h1.1, h1.2]
 · rw [if_neg h1]
   by_cases h2 : x < a ∨ (x = a ∧ y < b)
   · rw [if_pos h2, if_pos (by omega)]
   · rw [if_neg h2, if_neg (by omega)]
theorem bwF_zero (C : Grid) (a b : Nat) (h : bothG C a b = 0) : gC (bwF C a (b + 1)) = gC (bwF C a b) := by
 refine gC_congr fun x y hx hy => ?_
 simp only [bwF]
 by_cases h1 : x = a ∧ y = b
 · rw [if_pos (by omega), if_neg (by omega), h1.1, h1.2, h]
 · by_cases h2 : x < a ∨ (x = a ∧ y < b)
   · rw [if_pos h2, if_pos (by omega)]
   · rw [if_neg h2, if_neg (by omega)]
theorem bwF_row (C : Grid) (a : Nat) : gC (bwF C a 7) = gC (bwF C (a + 1) 0) := by
 refine gC_congr fun x y hx hy => ?_
 simp only [bwF]
 by_cases h2 : x < a ∨ (x = a ∧ y < 7)
 · rw [if_pos h2, if_pos (by omega)]
 · rw [if_neg h2, if_neg (by omega)]
set_option maxRecDepth 100000 in
set_option maxHeartbeats 4000000 in
theorem both_any (C : Grid) (w : World) :
 Calls Tryz.prog 163 #[.agg (gC C)] w fun e w' => e = .returned (.agg (gC (bothG C))) ∧ Below w.heap.size w w' := by
 have hz := zeroCosts
 obtain ⟨Z, hZ⟩ : ∃ Z, gC (fun _ _ => 0) = Z := ⟨_, rfl⟩
 rw [hZ] at hz
 obtain ⟨c, hc⟩ : ∃ c, gC C = c := ⟨_, rfl⟩
 rw [hc]
 go_enter Tryz.func163, Tryz.ntmps163
 go_wp2_with (fail)
 obtain ⟨W0, hW0⟩ : ∃ W0, ((w.alloc (.cells c 256)).alloc (.cells Z 256)).alloc (.cells Z 256) = W0 := ⟨_, rfl⟩
 have hb0 : Below w.heap.size w W0 := by rw [← hW0]; exact ((below_alloc _ _).alloc (by simp) _).alloc (by simp; omega) _
 have hB0 : Blk W0 w.heap.size c 256 := by rw [← hW0]; exact ((Blk.new w c _).below (below_alloc _ _)).below (below_alloc _ _)
 have hB1 : Blk W0 (w.heap.size + 1) Z 256 := by rw [← hW0]; exact (Blk.newN _ Z _ _ (by simp)).below (below_alloc _ _)
 have hB2 : Blk W0 (w.heap.size + 2) (gC (bwF C 0 0)) 256 := by
  rw [← hW0]
  have : gC (bwF C 0 0) = Z := by rw [← hZ]; exact gC_congr fun x y _ _ => by simp [bwF]
  rw [this]
  exact Blk.newN _ _ _ _ (by simp)
 rw [hW0]
 clear hW0
 obtain ⟨C0, hC0⟩ : ∃ C0, w.heap.size = C0 := ⟨_, rfl⟩
 have hl0 : w.heap.size ≤ C0 := by omega
 rw [hC0] at hB0 hB1 hB2
 rw [hC0]
 clear hC0
 go_loopw [6] (fun v wr => ∃ a : Nat, a ≤ 7 ∧ v = .int .i64 a ∧ Blk wr (C0 + 2) (gC (bwF C a 0)) 256 ∧ Blk wr C0 c 256 ∧ Blk wr (C0 + 1) Z 256 ∧ Below w.heap.size w wr) (fun v _ => 7 - (intOf v).toNat)
 case atStart => exact ⟨0, by omega, rfl, hB2, hB0, hB1, hb0⟩
 case round =>
  clear hB0 hB1 hB2 hb0
  obtain ⟨a, ha, rfl, hG, hc0, hZ0, hbel⟩ := hrel
  by_cases ha7 : a < 7
  · have ha7' : (a : Int) < 7 := by omega
    have HG : Hid _ := hG
    have Hc0 : Hid _ := hc0
    have HZ0 : Hid _ := hZ0
    have HB : Hid _ := hbel
    clear hG hc0 hZ0 hbel
    go_wp2_with (fail)
    go_loopw [9] (fun v wr => ∃ b : Nat, b ≤ 7 ∧ v = .int .i64 b ∧ Blk wr (C0 + 2) (gC (bwF C a b)) 256 ∧ Blk wr C0 c 256 ∧ Blk wr (C0 + 1) Z 256 ∧ Below w.heap.size w wr) (fun v _ => 7 - (intOf v).toNat)
    case atStart => exact ⟨0, by omega, rfl, HG.out, Hc0.out, HZ0.out, HB.out⟩
    case round =>
     clear HG Hc0 HZ0 HB
     obtain ⟨b, hb, rfl, hG, hc0, hZ0, hbel⟩ := hrel
     by_cases hb7 : b < 7
     · have hb7' : (b : Int) < 7 := by omega
       have r1 : wr.cell? ⟨C0, b * 7 + a, none⟩ = some (.int .i64 (C b a)) := (hc0.cell _).trans (by rw [← hc]; exact gC_get C b a hb7 ha7)
       have r2 : wr.cell? ⟨C0, a * 7 + b, none⟩ = some (.int .i64 (C a b)) := (hc0.cell _).trans (by rw [← hc]; exact gC_get C a b ha7 hb7)
       have r3 : wr.cell? ⟨C0 + 2, a * 7 + b, none⟩ = some (.int .i64 (bwF C a b a b)) := (hG.cell _).trans (gC_get _ a b ha7 hb7)
       have r4 := hG.frozen (a * 7 + b)
       have HG : Hid _ := hG
       have Hc0 : Hid _ := hc0
       have HZ0 : Hid _ := hZ0
       have HB : Hid _ := hbel
       clear hG hc0 hZ0 hbel
       by_cases hpos : 0 < C b a
       · have HS : Hid (bothG C a b = C a b) := by show _ = _; simp [bothG, hpos]
         go_wp2_with (fail)
         go_region
         all_goals
          go_wp2_with (fail)
          go_roundw
          case rel =>
           refine ⟨b + 1, by omega, by go_num, ?_, Blk.other Hc0.out (by omega) _, Blk.other HZ0.out (by omega) _, below_drewN (Below.setCell HB.out (by show w.heap.size ≤ C0 + 2; omega) _) 1⟩
           rw [bwF_step, HS.out, ← gC_set _ a b _ hb7]
           exact Blk.set HG.out _ _
          case measure => simp [intOf]; omega
       · have HS : Hid (bothG C a b = 0) := by show _ = _; simp [bothG, hpos]
         go_wp2_with (fail)
         go_roundw
         case rel => exact ⟨b + 1, by omega, by go_num, by rw [bwF_zero _ _ _ HS.out]; exact HG.out, Hc0.out, HZ0.out, HB.out⟩
         case measure => simp [intOf]; omega
     · have hb7' : ¬ (b : Int) < 7 := by omega
       have hbe : b = 7 := by omega
       have HG : Hid _ := hG
       have Hc0 : Hid _ := hc0
       have HZ0 : Hid _ := hZ0
       have HB : Hid _ := hbel
       clear hG hc0 hZ0 hbel
       go_wp2_with (fail)
       go_roundw
       case rel => exact ⟨a + 1, by omega, by go_num, by rw [← bwF_row, ← hbe]; exact HG.out, Hc0.out, HZ0.out, HB.out⟩
       case measure => simp [intOf]; omega
  · have ha7' : ¬ (a : Int) < 7 := by omega
    have HGE : Hid (gC (bwF C a 0) = gC (bothG C)) := gC_congr fun x y hx hy => by simp only [bwF]; rw [if_pos (by omega)]
    obtain ⟨g, hg⟩ : ∃ g, gC (bwF C a 0) = g := ⟨_, rfl⟩
    have gs : g.size = 49 := by rw [← hg]; exact gC_size _
    have g1 : g.all (·.oneCell') = true := by rw [← hg]; exact gC_one _
    have zs : Z.size = 49 := by rw [← hZ]; exact gC_size _
    rw [hg] at hG HGE
    have hR : Blk (wr.setRow (C0 + 1) g) (C0 + 1) g 256 := hZ0.setRow
    have l6 := run_loadVar_row (P := Tryz.prog) (wr.setRow (C0 + 1) g) (C0 + 1) 256 256 g (0, 0) _ hR Tryz.underlying256 rfl (by rw [gs]; exact size100)
    have HBE : Hid (Below w.heap.size w (wr.setRow (C0 + 1) g)) := below_setRow hbel (by omega) g
    have hi1 : (Tryz.prog.info? 256).map (·.size) = some g.size := by rw [gs]; exact size100
    have hsz : Z.size = g.size := by rw [gs, zs]
    clear hR hg hZ hbel hc0
    go_wp2_with (first
     | refine wpList_load_blk _ rfl (.tmp 3) 256 rfl (C0 + 2) g _ _ rfl hG Tryz.underlying256 hi1 ?_
     | refine wpList_store_blk _ rfl (.tmp 2) (.tmp 29) 256 rfl (C0 + 1) Z g rfl rfl hZ0 hsz hi1 g1 ?_)
    refine bodyPost_ret (v := .agg g) (by simp [results, Tryz.results163, asAddr, l6]) rfl ?_
    exact ⟨by rw [HGE.out], HBE.out⟩
end Go.Proofs.YtieklnlbljejdaaGreatDoor

namespace Go.Proofs.YtieklnlbljejdaaGreatDoor
open Go.RowKit St
theorem tellF_range (S : Nat → SV) (E : Nat → List Opt) : ∀ n, (∀ j, j < n → stF (S j).own (S j).seq (E j) = 0) → ∀ x y, 0 ≤ tellF S E n x y ∧ tellF S E n x y ≤ 20
 | 0, _, x, y => by simp [tellF]
 | n + 1, h, x, y => by
   have ih := tellF_range S E n (fun j hj => h j (by omega))
   have hes := edgF_all _ (E n) 0 (stF_zero (h n (by omega))).2.2.2
   simp only [tellF, putE]
   generalize E n = es at hes
   generalize tellF S E n = C at ih
   induction es generalizing C with
   | nil => exact ih x y
   | cons e es ihs =>
     rw [List.foldl_cons]
     refine ihs (fun q hq => hes q (by simp [hq])) _ (fun u v => ?_)
     simp only [updG]
     have := hes e (by simp)
     split
     · omega
     · exact ih u v
end Go.Proofs.YtieklnlbljejdaaGreatDoor

namespace Go.Proofs.YtieklnlbljejdaaGreatDoor
open Go.RowKit St
def lstF (H : Nat → HP) : Nat → List HP
 | 0 => []
 | n + 1 => if 0 < (H n).far then lstF H n ++ [H n] else lstF H n
theorem lstF_length (H : Nat → HP) : ∀ n, (lstF H n).length ≤ n
 | 0 => Nat.le_refl _
 | n + 1 => by
   have := lstF_length H n
   simp only [lstF]
   split
   · simp; omega
   · omega
def hpC (L : List HP) : List Value := L.flatMap fun h => [.int .i64 h.dst, .int .i64 h.far, .int .i64 h.nxt]
theorem hpC_snoc (L : List HP) (h : HP) : hpC (L ++ [h]) = hpC L ++ [.int .i64 h.dst, .int .i64 h.far, .int .i64 h.nxt] := by simp [hpC]
theorem hpC_get : ∀ (L : List HP) (j : Nat) (h : HP), L[j]? = some h → (hpC L)[j * 3]? = some (.int .i64 h.dst) ∧ (hpC L)[j * 3 + 1]? = some (.int .i64 h.far) ∧ (hpC L)[j * 3 + 2]? = some (.int .i64 h.nxt)
 | [], j, s, h => by simp at h
 | x :: l, 0, s, h => by
   have : x = s := by simpa using h
   subst this
   exact ⟨rfl, rfl, rfl⟩
 | x :: l, j + 1, s, h => by
   have h' : l[j]? = some s := by simpa using h
   obtain ⟨a, b, c⟩ := hpC_get l j s h'
   have e : hpC (x :: l) = .int .i64 x.dst :: .int .i64 x.far :: .int .i64 x.nxt :: hpC l := rfl
   have e1 : (j + 1) * 3 = j * 3 + 3 := by omega
   have e2 : (j + 1) * 3 + 1 = j * 3 + 1 + 3 := by omega
   have e3 : (j + 1) * 3 + 2 = j * 3 + 2 + 3 := by omega
   rw [e, e2, e3, e1]
   simp only [List.getElem?_cons_succ]
   exact ⟨a, b, c⟩
theorem Row.hs {w : World} {v : Value} {L : List HP} (h : Row w 3 v L.length (hpC L)) : ∃ a cap, v = .slice a L.length cap ∧ HsR w a L.length L := by
 rcases h.2 with ⟨rfl, e⟩ | ⟨g, cap, rfl, _⟩
 · rw [e]
   exact ⟨none, 0, rfl, ⟨e, .inl rfl⟩⟩
 · refine ⟨_, cap, rfl, ⟨rfl, .inr ⟨g, 0, rfl, fun j s e => ?_⟩⟩⟩
   obtain ⟨a, b, c⟩ := hpC_get L j s e
   rw [show 0 + j * 3 = j * 3 by omega]
   exact ⟨Row.cell h _ _ a, Row.cell h _ _ b, Row.cell h _ _ c⟩
theorem cells_threeH (w : World) (x y z : Value) (t : TypeId) (g : Nat) (hg : w.heap.size = g) : ∀ (j : Nat) (u : Value), [x, y, z][j]? = some u → (w.alloc (.cells #[x, y, z] t)).cell? ((⟨g, 0, none⟩ : Addr).add j) = some u := by
 subst hg
 intro j u hu
 rw [add_plain, World.cell?_alloc_mark]
 simpa using hu
theorem one_hp (x y z : Int) : ∀ u ∈ [Value.int .i64 x, Value.int .i64 y, Value.int .i64 z], u.oneCell' = true := by simp [Value.oneCell']
theorem infoHop : (Tryz.prog.info? 98).map (fun i => (i.zero, i.size, i.bytes)) = some (some (.agg #[.int .i64 0, .int .i64 0, .int .i64 0]), 3, 24) := by kernel_rfl
set_option maxRecDepth 100000 in
set_option maxHeartbeats 4000000 in
theorem list_any (H : Nat → HP) (B : Nat) (w : World) (hB : Blk w B (hC H) 259) :
 Calls Tryz.prog 166 #[.pointer (some ⟨B, 0, none⟩)] w fun e w' => ∃ a cap, e = .returned (.slice a (lstF H 7).length cap) ∧ HsR w' a (lstF H 7).length (lstF H 7) ∧ Below w.heap.size w w' := by
 obtain ⟨i0, hi, hz0, hz1, hz2⟩ := info_parts infoHop
 go_enter Tryz.func166, Tryz.ntmps166
 go_wp2_with (fail)
 go_loopw [3, 8] (fun s v wr => ∃ n : Nat, n ≤ 7 ∧ v = .int .i64 n ∧ Row wr 3 s (lstF H n).length (hpC (lstF H n)) ∧ (∀ g, s.ownBlock = some g → w.heap.size ≤ g) ∧ Below w.heap.size w wr) (fun _ v _ => 7 - (intOf v).toNat)
 case atStart => exact ⟨0, by omega, rfl, Row.nil _ _, fun g hg => by simp [Value.ownBlock] at hg, Below.refl _ _⟩
 case round =>
  obtain ⟨n, hn, rfl, hrow, hown, hbel⟩ := hrel
  have HL : Hid _ := lstF_length H n
  have HS : Hid (lstF H (n + 1) = if 0 < (H n).far then lstF H n ++ [H n] else lstF H n) := rfl
  by_cases hn7 : n < 7
  · have hn7' : (n : Int) < 7 := by omega
    obtain ⟨p0, p1, p2⟩ := hC_get H n hn7
    have hBw := hB.below hbel
    have c0 := (hBw.cell (n * 3)).trans p0
    have c1 := (hBw.cell (n * 3 + 1)).trans p1
    have c2 := (hBw.cell (n * 3 + 2)).trans p2
    clear p0 p1 p2 hBw
    obtain ⟨p, hp⟩ : ∃ p, H n = p := ⟨_, rfl⟩
    rw [hp] at c0 c1 c2 HS
    clear hp
    obtain ⟨pd, pf, px⟩ := p
    simp only at c0 c1 c2 HS
    have hba := hbel.alloc hbel.size (.cells #[.int .i64 pd, .int .i64 pf, .int .i64 px] 98)
    have HBA : Hid _ := hba
    have hws : Hid (w.heap.size ≤ wr.heap.size) := hbel.size
    have hrow2 := hrow.alloc (.cells #[.int .i64 pd, .int .i64 pf, .int .i64 px] 98)
    have HOwn : Hid _ := hown
    by_cases hf : 0 < pf
    · rw [if_pos hf] at HS
      obtain ⟨L, hLe⟩ : ∃ L, lstF H n = L := ⟨_, rfl⟩
      rw [hLe] at HS HL hrow2
      have hLl : L.length ≤ n := HL.out
      clear hLe hrow hown hbel hba
      go_wp2_with (at_builtin; go_must (refine wpList_append_row _ rfl (.tmp 16) (.tmp 18) 94 rfl 98 i0 (.agg #[.int .i64 0, .int .i64 0, .int .i64 0]) 3 24 Tryz.underlying94 hi hz0 hz1 hz2 rfl (by decide) u3 L.length (hpC L) rfl (hrow2.alloc _) _ 1 1 [.int .i64 pd, .int .i64 pf, .int .i64 px] rfl rfl (by decide) (cells_threeH _ _ _ _ _ _ (by simp)) (one_hp _ _ _) (by unfold maxLen; omega) (by omega) ?_))
      intro g' cap' w3 hr3 hg3 hown3
      have HR3 : Hid (Row w3 3 (.slice (some ⟨g', 0, none⟩) (L.length + 1) cap') (L ++ [(⟨pd, pf, px⟩ : HP)]).length (hpC (L ++ [(⟨pd, pf, px⟩ : HP)]))) := by
       show Row _ _ _ _ _
       rw [hpC_snoc, List.length_append]
       exact hr3
      have kb : Below w.heap.size w ((wr.alloc (.cells #[.int .i64 pd, .int .i64 pf, .int .i64 px] 98)).alloc (.cells #[.int .i64 pd, .int .i64 pf, .int .i64 px] 98)) := Below.alloc HBA.out HBA.out.size _
      have HB3 : Hid (Below w.heap.size w w3) := ⟨hg3.os.trans kb.os, hg3.tape.trans kb.tape, hg3.output.trans kb.output, Nat.le_trans kb.size hg3.size, fun i hi => (hg3.block i (Nat.lt_of_lt_of_le hi kb.size) (fun e => by have := HOwn.out i e.symm; omega)).trans (kb.block i hi)⟩
      have HG3 : Hid (∀ g, Value.ownBlock (.slice (some ⟨g', 0, none⟩) (L.length + 1) cap') = some g → w.heap.size ≤ g) := by
       intro g hg
       have hgg : g' = g := by simpa [Value.ownBlock] using hg
       subst hgg
       rcases hown3 with e | e
       · exact HOwn.out _ e
       · have := hws.out
         omega
      clear hr3 hg3 hown3 kb hrow2 c0 c1 c2
      go_wp2_with (fail)
      go_roundw
      case rel => exact ⟨n + 1, by omega, by go_num, by rw [HS.out]; exact HR3.out, HG3.out, HB3.out⟩
      case measure => simp [intOf]; omega
    · rw [if_neg hf] at HS
      have HR2 : Hid _ := hrow2
      clear hrow hown hbel hba hrow2
      go_wp2_with (fail)
      go_roundw
      case rel => exact ⟨n + 1, by omega, by go_num, by rw [HS.out]; exact HR2.out, HOwn.out, HBA.out⟩
      case measure => simp [intOf]; omega
  · have hn7' : ¬ (n : Int) < 7 := by omega
    have hne : n = 7 := by omega
    subst hne
    obtain ⟨a, cap, rfl, hR⟩ := Row.hs hrow
    have HR : Hid _ := hR
    clear hR hrow hown
    go_wp2_with (fail)
    go_ret
    first | exact ⟨a, cap, rfl, HR.out, hbel⟩ | exact ⟨a, ⟨cap, rfl⟩, HR.out, hbel⟩
end Go.Proofs.YtieklnlbljejdaaGreatDoor

namespace Go.Proofs.YtieklnlbljejdaaGreatDoor
open Go.RowKit St
theorem BR.still {w w' : World} {B : Nat} {m : FM} {n : Nat} {K : Int → Option PS} {O : Nat → Int → Option PS} (h : BR w B m n K O) (hs : w.heap.size ≤ w'.heap.size) (hk : ∀ j, j < w.heap.size → ¬ m.no j → w'.heap[j]? = w.heap[j]?)
 (hB : ¬ m.no B) (hg : ¬ m.no m.g) (hm : ∀ b, (b = m.bm ∨ b ∈ m.bs) → ¬ m.no b) (no' : Nat → Prop) (h1 : ∀ j, no' j → m.no j ∨ w.heap.size ≤ j) (h2 : ∀ j, no' j → j < w'.heap.size) : BR w' B { m with no := no' } n K O := by
 have hml := h.mlt
 obtain ⟨kn, ow, hF, hT, hO⟩ := h.ex
 have mp : ∀ b, (b = m.bm ∨ b ∈ m.bs) → w'.heap[b]? = w.heap[b]? := fun b hb => hk b (hml b hb) (hm b hb)
 have tie : ∀ {f : Int → Option SV} {F : Int → Option PS}, Tie w m f F → Tie w' { m with no := no' } f F := by
  intro f F ht x hr
  have := ht x hr
  cases e : F x with
  | none => rw [e] at this; exact this
  | some q =>
    rw [e] at this
    obtain ⟨s, h3, h4⟩ := this
    refine ⟨s, h3, ⟨h4.own, h4.seq, h4.n, h4.opt.kept (cap := s.cap) (fun j hj => hk j (h4.lt j hj) (h4.far j hj).2.2), h4.nil, h4.ok, fun j hj => Nat.lt_of_lt_of_le (h4.lt j hj) hs, fun j hj => ⟨(h4.far j hj).1, (h4.far j hj).2.1, fun e => ?_⟩⟩⟩
    rcases h1 j e with e1 | e1
    · exact (h4.far j hj).2.2 e1
    · have := h4.lt j hj; omega
 refine ⟨⟨kn, ow, ⟨(hk B hF.lt hB).trans hF.blk, hF.row.keep hs (fun x hx => ?_), hF.km.keep (mp _ (.inl rfl)), fun i b e => (hF.om i b e).keep (mp b (.inr (List.mem_of_getElem? e))), hF.few, hF.nB, hF.nd⟩, tie hT, fun i hi => tie (hO i hi)⟩, h2⟩
 have hgx : m.g = x := by simpa [FM.sl, Value.ownBlock] using hx
 subst hgx
 exact hk m.g (hF.row.lt _ hx) hg
end Go.Proofs.YtieklnlbljejdaaGreatDoor
