/-
  FrPlain FrSum FrEsc FrMake PkBytes
-/
import Derived.Test.YtieklnlbljejdaaGreatDoorG00
import Derived.Test.YtieklnlbljejdaaGreatDoorG02
import Derived.WalkKit
import Derived.WalkSpells
import Derived.WalkLawsBesides
import Derived.Handy
namespace Go.Proofs.YtieklnlbljejdaaGreatDoor.Plain
open Go.RowKit
theorem i64_xor_nat (a b : Nat) (ha : a < 65536) (hb : b < 65536) : bits .xor .i64 (a : Int) (b : Int) = ((a ^^^ b : Nat) : Int) := by
 have h : a ^^^ b < 65536 := Nat.xor_lt_two_pow (n := 16) ha hb
 have e : ∀ n : Nat, n < 65536 → (BitVec.ofInt 64 (n : Int)).toNat = n := by
  intro n hn
  rw [BitVec.toNat_ofInt]
  simp; omega
 have e2 : (BitVec.ofInt 64 (a : Int) ^^^ BitVec.ofInt 64 (b : Int)).toNat = a ^^^ b := by
  rw [BitVec.toNat_xor, e a ha, e b hb]
 show IntKind.i64.wrap ((BitVec.ofInt 64 (a : Int) ^^^ BitVec.ofInt 64 (b : Int)).toNat : Int) = _
 rw [e2, IntKind.wrap_i64]
 omega
def turn (x : Nat) : Nat := if x % 2 = 1 then x / 2 ^^^ 33800 else x / 2
def turns : Nat → Nat → Nat
 | 0, x => x
 | n + 1, x => turns n (turn x)
def byteIn (x : Nat) (c : UInt8) : Nat := turns 8 (x ^^^ c.toNat)
def reg (l : List UInt8) : Nat := l.foldl byteIn 65535
def sum (l : List UInt8) : Nat := reg l ^^^ 65535
theorem xor_lt (a b : Nat) (ha : a < 65536) (hb : b < 65536) : a ^^^ b < 65536 := Nat.xor_lt_two_pow (n := 16) ha hb
theorem u8_lt (c : UInt8) : c.toNat < 65536 := by have := c.toNat_lt; omega
theorem turn_lt (x : Nat) (h : x < 65536) : turn x < 65536 := by
 unfold turn
 split
 · exact xor_lt _ _ (by omega) (by omega)
 · omega
theorem turns_lt : ∀ n x, x < 65536 → turns n x < 65536
 | 0, _, h => h
 | n + 1, x, h => turns_lt n _ (turn_lt x h)
theorem turns_succ : ∀ n x, turns (n + 1) x = turn (turns n x)
 | 0, _ => rfl
 | n + 1, x => by rw [turns, turns_succ n (turn x)]; rfl
theorem byteIn_lt (x : Nat) (c : UInt8) (h : x < 65536) : byteIn x c < 65536 := turns_lt 8 _ (xor_lt _ _ h (u8_lt c))
theorem foldl_lt : ∀ (l : List UInt8) x, x < 65536 → l.foldl byteIn x < 65536
 | [], _, h => h
 | c :: l, x, h => foldl_lt l _ (byteIn_lt x c h)
theorem reg_lt (l : List UInt8) : reg l < 65536 := foldl_lt l _ (by omega)
theorem sum_lt (l : List UInt8) : sum l < 65536 := xor_lt _ _ (reg_lt l) (by omega)
theorem reg_snoc (l : List UInt8) (c : UInt8) : reg (l ++ [c]) = byteIn (reg l) c := by simp [reg]
end Go.Proofs.YtieklnlbljejdaaGreatDoor.Plain

namespace Go.Proofs.YtieklnlbljejdaaGreatDoor
open Go.RowKit Plain
theorem ret_int {k : IntKind} {a b : Int} (h : a = b) : Ending.returned (.int k a) = .returned (.int k b) := by rw [h]
theorem take_snoc (s : ByteArray) (k : Nat) (h : k < s.size) : s.data.toList.take (k + 1) = s.data.toList.take k ++ [s[k]] := by
 rw [List.take_succ_eq_append_getElem (by simpa using h)]; rfl
theorem turn_odd (x : Nat) (h : x < 65536) (h1 : (x : Int) % 2 = 1) : bits .xor .i64 ((x : Int) / 2) 33800 = (turn x : Int) := by
 have e := i64_xor_nat (x / 2) 33800 (by omega) (by omega)
 have : x % 2 = 1 := by omega
 simp only [turn, this, if_true]
 rw [← e]; simp
theorem turn_even (x : Nat) (h1 : ¬ (x : Int) % 2 = 1) : (x : Int) / 2 = (turn x : Int) := by
 have : ¬ x % 2 = 1 := by omega
 simp [turn, this]
set_option maxHeartbeats 1000000 in
theorem sum_any (s : ByteArray) (w : World) (hs : s.size ≤ maxLen) :
 Calls Tryz.prog 210 #[.string s] w fun e w' => e = .returned (.int .i64 (Plain.sum s.data.toList : Nat)) ∧ w = w' := by
 unfold maxLen at hs
 go_enter Tryz.func210, Tryz.ntmps210
 go_wp2
 go_loop [3, 8] (fun x i => ∃ k : Nat, k ≤ s.size ∧ i = .int .i64 k ∧ x = .int .i64 (reg (s.data.toList.take k) : Nat)) (fun _ i => s.size - (intOf i).toNat)
 case atStart => exact ⟨0, Nat.zero_le _, rfl, rfl⟩
 case round =>
  obtain ⟨k, hk, rfl, rfl⟩ := hrel
  by_cases hlt : k < s.size
  · have hts := take_snoc s k hlt
    have HS : Hid (reg (s.data.toList.take (k + 1)) = turns 8 (reg (s.data.toList.take k) ^^^ s[k].toNat)) := by rw [hts, reg_snoc]; rfl
    have HX : bits .xor .i64 (reg (s.data.toList.take k) : Nat) (wrap64 (s[k].toNat : Nat)) = ((reg (s.data.toList.take k) ^^^ s[k].toNat : Nat) : Int) := by
     have hb := s[k].toNat_lt
     rw [IntWalk.wrap64_in _ ⟨by omega, by omega⟩]
     exact i64_xor_nat _ _ (reg_lt _) (u8_lt _)
    have HB : reg (s.data.toList.take k) ^^^ s[k].toNat < 65536 := xor_lt _ _ (reg_lt _) (u8_lt _)
    clear hts
    generalize reg (s.data.toList.take k) ^^^ s[k].toNat = X at HX HB HS
    go_wp2
    go_loop [3, 17] (fun x i => ∃ j : Nat, j ≤ 8 ∧ i = .int .i64 j ∧ x = .int .i64 (turns j X : Nat)) (fun _ i => 8 - (intOf i).toNat)
    case atStart => exact ⟨0, Nat.zero_le _, rfl, rfl⟩
    case round =>
     obtain ⟨j, hj, rfl, rfl⟩ := hrel
     by_cases hj8 : j < 8
     · have hl := turns_lt j X HB
       have hT : turns (j + 1) X = turn (turns j X) := turns_succ j X
       have ho := turn_odd (turns j X) hl
       have he := turn_even (turns j X)
       generalize turns j X = Y at *
       go_wp2
       all_goals
        go_round
        case rel => exact ⟨j + 1, by omega, by go_num, by rw [hT]; first | rw [ho (by simp_all)] | rw [he (by simp_all)]⟩
        case measure => simp [intOf]; omega
     · have e8 : j = 8 := by omega
       subst e8
       go_wp2
       go_round
       case rel => exact ⟨k + 1, by omega, by go_num, by rw [HS.out]⟩
       case measure => simp [intOf]; omega
  · go_wp2
    go_ret
    have e : k = s.size := by omega
    exact ⟨ret_int (by rw [List.take_of_length_le (by simp; omega)]; exact i64_xor_nat _ 65535 (reg_lt _) (by decide)), rfl⟩
end Go.Proofs.YtieklnlbljejdaaGreatDoor

namespace Go.Proofs.YtieklnlbljejdaaGreatDoor.Plain
open Go.RowKit
def isEsc (c : UInt8) : Bool := c == 126 || c == 125 || decide (c < 32)
def escB (c : UInt8) : List UInt8 := if isEsc c then [125, c ^^^ 32] else [c]
def escL (l : List UInt8) : List UInt8 := l.flatMap escB
def sumLo (l : List UInt8) : UInt8 := UInt8.ofNat (sum l % 256)
def sumHi (l : List UInt8) : UInt8 := UInt8.ofNat (sum l / 256)
def withSum (l : List UInt8) : List UInt8 := l ++ [sumLo l, sumHi l]
def frameL (l : List UInt8) : List UInt8 := 126 :: (escL (withSum l) ++ [126])
theorem sumLo_nat (l : List UInt8) : ((sumLo l).toNat : Int) = ((sum l : Nat) : Int) % 256 := by
 have := sum_lt l
 unfold sumLo
 rw [UInt8.toNat_ofNat_of_lt' (by show sum l % 256 < 256; omega)]
 omega
theorem sumHi_nat (l : List UInt8) : ((sumHi l).toNat : Int) = ((sum l : Nat) : Int) / 256 := by
 have := sum_lt l
 unfold sumHi
 rw [UInt8.toNat_ofNat_of_lt' (by show sum l / 256 < 256; omega)]
 omega
theorem escL_snoc (l : List UInt8) (c : UInt8) : escL (l ++ [c]) = escL l ++ escB c := by simp [escL]
theorem escB_le (c : UInt8) : (escB c).length ≤ 2 := by unfold escB; split <;> simp
theorem escL_le : ∀ l : List UInt8, (escL l).length ≤ 2 * l.length
 | [] => by simp [escL]
 | c :: l => by
   have := escL_le l
   have h := escB_le c
   simp only [escL, List.flatMap_cons, List.length_append, List.length_cons] at this ⊢
   omega
theorem withSum_length (l : List UInt8) : (withSum l).length = l.length + 2 := by simp [withSum]
theorem isEsc_iff (c : UInt8) : isEsc c = true ↔ (c.toNat : Int) = 126 ∨ (c.toNat : Int) = 125 ∨ (c.toNat : Int) < 32 := by
 unfold isEsc
 simp only [Bool.or_eq_true, beq_iff_eq, decide_eq_true_eq, UInt8.lt_iff_toNat_lt]
 have h1 : c = 126 ↔ (c.toNat : Int) = 126 := by
  rw [← UInt8.toNat_inj]; show c.toNat = 126 ↔ _; omega
 have h2 : c = 125 ↔ (c.toNat : Int) = 125 := by
  rw [← UInt8.toNat_inj]; show c.toNat = 125 ↔ _; omega
 rw [h1, h2]
 show (_ ∨ _) ∨ c.toNat < 32 ↔ _
 omega
theorem xor32 (c : UInt8) : bits .xor .u8 (c.toNat : Int) 32 = ((c ^^^ 32).toNat : Int) := by
 have := c.toNat_lt
 have e := u8_xor_nat c.toNat 32 (by omega) (by omega)
 rw [UInt8.toNat_xor]
 exact e
end Go.Proofs.YtieklnlbljejdaaGreatDoor.Plain

namespace Go.Proofs.YtieklnlbljejdaaGreatDoor
open Go.RowKit Plain
theorem info5 : (Tryz.prog.info? 5).map (fun i => (i.zero, i.size, i.bytes)) = some (some (.int .u8 0), 1, 1) := by kernel_rfl
set_option maxRecDepth 100000 in
set_option maxHeartbeats 2000000 in
theorem make_yes (s : ByteArray) (w : World) (hs : s.size ≤ 60) :
 Calls Tryz.prog 197 #[.string s] w fun e w' => e = .returned (.tuple #[.string ⟨(frameL s.data.toList).toArray⟩, .nilIface]) ∧ Below w.heap.size w w' := by
 obtain ⟨i0, hi, hz0, hz1, hz2⟩ := info_parts info5
 have hle : ¬ (60 : Int) < (s.size : Int) := by omega
 have hsl := Plain.sum_lt s.data.toList
 obtain ⟨cap, C, fr, hconv, hrow⟩ := run_bytes_row (P := Tryz.prog) (w.alloc (.cells #[.int .u8 126] 5)) 9 140 5 s Tryz.underlying9 Tryz.underlying140 Tryz.underlying5 (by unfold maxLen; omega)
 have hsz : (w.alloc (.cells #[.int .u8 126] 5)).heap.size = w.heap.size + 1 := by simp
 rw [hsz] at hrow
 obtain ⟨L, hL⟩ : ∃ L, L = withSum s.data.toList := ⟨_, rfl⟩
 have hLl : L.length = s.size + 2 := by rw [hL, withSum_length]; rfl
 go_enter Tryz.func197, Tryz.ntmps197
 go_wp2_with (first
  | (go_at_call 210; refine (sum_any _ _ ?hx).mono ?_; (case hx => unfold maxLen; omega); rintro e w' ⟨rfl, rfl⟩)
  | (at_builtin; go_must (refine wpList_append_row _ rfl (.tmp 16) (.tmp 22) 140 rfl 5 i0 (.int .u8 0) 1 1 Tryz.underlying140 hi hz0 hz1 hz2 rfl (by decide) (.slice (some ⟨w.heap.size + 1, 0, none⟩) s.size cap) s.size (cells8 s.data.toList) rfl ?r1 _ 2 2 (cells8 [sumLo s.data.toList, sumHi s.data.toList]) rfl rfl (by decide) ?c1 ?c2 ?c3 ?c4 ?_)))
 case r1 => exact (hrow.alloc _).drew
 case c1 =>
  intro j u hu
  rw [add_plain, World.cell?_drew]
  have h2 := World.cell?_alloc_mark ((w.alloc (Obj.cells #[Value.int IntKind.u8 126] 5)).alloc (Obj.cells C 5 fr)) #[Value.int IntKind.u8 (↑(sum s.data.toList) % 256), Value.int IntKind.u8 (↑(sum s.data.toList) / 256)] 5 (0, 0) j
  have h3 : ((w.alloc (Obj.cells #[Value.int IntKind.u8 126] 5)).alloc (Obj.cells C 5 fr)).heap.size = w.heap.size + 1 + 1 := by simp
  rw [h3] at h2
  rw [h2, ← sumLo_nat, ← sumHi_nat]
  simpa [cells8] using hu
 case c2 => intro u hu; simp [cells8] at hu; rcases hu with rfl | rfl <;> rfl
 case c3 => unfold maxLen; omega
 case c4 => omega
 intro g1 cap1 w1 hrow1 hg1 hown1
 have hb0 : Below w.heap.size w w1 := by
  refine Below.grown ?_ hg1 ?_ ?_
  · exact ((((Below.refl _ _).alloc (Nat.le_refl _) _).alloc (by simp) _).alloc (by simp; omega) _).drew
  · simp; omega
  · intro k hk
    simp [Value.ownBlock] at hk
    omega
 have hgl : w.heap.size < g1 := by
  rcases hown1 with h | h
  · simp [Value.ownBlock] at h; omega
  · omega
 have hE0 : Row w1 1 (.slice (some ⟨w.heap.size, 0, none⟩) 1 1) 1 (cells8 [126]) := by
  refine Row.kept (row := some (w.heap.size + 1)) ?q1 hg1 ?q2
  case q1 => exact (((Row.made w 1 5 #[.int .u8 126] (0, 0) 1 1 (cells8 [126]) rfl rfl (Nat.le_refl _) (by decide) (.inl rfl) (by simp [cells8])).alloc _).alloc _).drew
  case q2 =>
   intro k hk
   have hk' : w.heap.size = k := by simpa [Value.ownBlock] using hk
   intro e
   have e' : w.heap.size + 1 = k := by simpa using e
   omega
 have hS : Row w1 1 (.slice (some ⟨g1, 0, none⟩) (s.size + 2) cap1) (s.size + 2) (cells8 L) := by
  rw [hL, withSum, cells8_append]; exact hrow1
 clear hrow1 hg1 hown1 hrow hconv
 go_wp2
 go_loopw [5, 25] (fun v i wr => ∃ (k g cp : Nat) (E : List UInt8), E = 126 :: escL (L.take k) ∧ k ≤ L.length ∧ i = .int .i64 k ∧ v = .slice (some ⟨g, 0, none⟩) E.length cp ∧ Row wr 1 v E.length (cells8 E) ∧
  Row wr 1 (.slice (some ⟨g1, 0, none⟩) (s.size + 2) cap1) (s.size + 2) (cells8 L) ∧ w.heap.size ≤ g ∧ g ≠ g1 ∧ Below w.heap.size w wr)
  (fun _ i _ => L.length - (intOf i).toNat)
 case atStart => exact ⟨0, w.heap.size, 1, [126], rfl, Nat.zero_le _, rfl, rfl, hE0, hS, Nat.le_refl _, by omega, hb0⟩
 case round =>
  obtain ⟨k, g, cp, E, hEq, hk, rfl, rfl, hE, hSr, hgw, hgne, hbel⟩ := hrel
  have hEl : E.length ≤ 1 + 2 * 62 := by
   have h1 := escL_le (L.take k)
   have h2 : (L.take k).length ≤ 62 := by simp; omega
   rw [hEq]; simp only [List.length_cons]; omega
  have HE : Hid (E = 126 :: escL (L.take k)) := hEq
  clear hEq
  clear hE0 hS hb0
  have m1 : E.length + 1 ≤ maxLen := by unfold maxLen; omega
  have m2 : E.length + 2 ≤ maxLen := by unfold maxLen; omega
  have b1 : (E.length + 1) * 1 ≤ 140737488355328 := by omega
  have b2 : (E.length + 2) * 1 ≤ 140737488355328 := by omega
  by_cases hlt : k < L.length
  · have hcell := hSr.cell k _ (cells8_get L k hlt)
    have hx := xor32 L[k]
    have HN : Hid (126 :: escL (L.take (k + 1)) = E ++ escB L[k]) := by
     have : L.take (k + 1) = L.take k ++ [L[k]] := List.take_succ_eq_append_getElem hlt
     rw [HE.out, this, escL_snoc]; rfl
    have HC : Hid (isEsc L[k] = true ↔ _) := isEsc_iff L[k]
    obtain ⟨c, hc⟩ : ∃ c, c = L[k] := ⟨_, rfl⟩
    rw [← hc] at hcell hx HN HC
    clear hc
    have hT : ∀ (he : isEsc c = true) (g' cap' : Nat) (w2 : World), Row w2 1 (.slice (some ⟨g', 0, none⟩) (E.length + 2) cap') (E.length + 2) (cells8 E ++ [.int .u8 125, .int .u8 ((c ^^^ 32).toNat : Int)]) →
     Row w2 1 (.slice (some ⟨g', 0, none⟩) (126 :: escL (L.take (k + 1))).length cap') (126 :: escL (L.take (k + 1))).length (cells8 (126 :: escL (L.take (k + 1)))) ∧ (126 :: escL (L.take (k + 1))).length = E.length + 2 := by
     intro he g' cap' w2 hr
     rw [HN.out]
     have e1 : escB c = [125, c ^^^ 32] := by simp [escB, he]
     rw [e1]
     refine ⟨?_, by simp⟩
     rw [cells8_append, List.length_append]
     exact hr
    have hO : ∀ (he : ¬ isEsc c = true) (g' cap' : Nat) (w2 : World), Row w2 1 (.slice (some ⟨g', 0, none⟩) (E.length + 1) cap') (E.length + 1) (cells8 E ++ [.int .u8 (c.toNat : Int)]) →
     Row w2 1 (.slice (some ⟨g', 0, none⟩) (126 :: escL (L.take (k + 1))).length cap') (126 :: escL (L.take (k + 1))).length (cells8 (126 :: escL (L.take (k + 1)))) ∧ (126 :: escL (L.take (k + 1))).length = E.length + 1 := by
     intro he g' cap' w2 hr
     rw [HN.out]
     have e1 : escB c = [c] := by simp [escB, he]
     rw [e1]
     refine ⟨?_, by simp⟩
     rw [cells8_append, List.length_append]
     exact hr
    by_cases h1 : ((c.toNat : Int) == 126) = true
    · have he : isEsc c = true := HC.out.mpr (.inl (by simpa using h1))
      go_wp2_with (at_builtin; go_must (refine wpList_append_row _ rfl (.tmp 39) (.tmp 42) 140 rfl 5 i0 (.int .u8 0) 1 1 Tryz.underlying140 hi hz0 hz1 hz2 rfl (by decide) _ E.length (cells8 E) rfl (hE.alloc _) _ 2 2 [.int .u8 125, .int .u8 ((c ^^^ 32).toNat : Int)] rfl rfl (by decide) (cells_two _ _ _ _) (one_ints _ _ _ _) m2 b2 ?_))
      intro g2 cap2 w2 hr2 hgr2 hown2
      obtain ⟨hr3, hl3⟩ := hT he g2 cap2 w2 hr2
      have R := row_step hgr2 hown2 hSr hgw hgne hbel
      have HL : Hid _ := hl3
      clear hl3 hgr2 hown2 hr2 hE hSr hbel hcell hx
      go_wp2
      go_roundw
      case rel => exact ⟨k + 1, g2, cap2, _, rfl, by omega, by go_num, by rw [HL.out], by rw [← HL.out]; exact hr3, R.1, R.2.1, R.2.2.1, R.2.2.2⟩
      case measure => simp [intOf]; omega
    · have h1' : ((c.toNat : Int) == 126) = false := by simpa using h1
      by_cases h2 : ((c.toNat : Int) == 125) = true
      · have he : isEsc c = true := HC.out.mpr (.inr (.inl (by simpa using h2)))
        go_wp2_with (at_builtin; go_must (refine wpList_append_row _ rfl (.tmp 39) (.tmp 42) 140 rfl 5 i0 (.int .u8 0) 1 1 Tryz.underlying140 hi hz0 hz1 hz2 rfl (by decide) _ E.length (cells8 E) rfl (hE.alloc _) _ 2 2 [.int .u8 125, .int .u8 ((c ^^^ 32).toNat : Int)] rfl rfl (by decide) (cells_two _ _ _ _) (one_ints _ _ _ _) m2 b2 ?_))
        intro g2 cap2 w2 hr2 hgr2 hown2
        obtain ⟨hr3, hl3⟩ := hT he g2 cap2 w2 hr2
        have R := row_step hgr2 hown2 hSr hgw hgne hbel
        have HL : Hid _ := hl3
        clear hl3 hgr2 hown2 hr2 hE hSr hbel hcell hx
        go_wp2
        go_roundw
        case rel => exact ⟨k + 1, g2, cap2, _, rfl, by omega, by go_num, by rw [HL.out], by rw [← HL.out]; exact hr3, R.1, R.2.1, R.2.2.1, R.2.2.2⟩
        case measure => simp [intOf]; omega
      · have h2' : ((c.toNat : Int) == 125) = false := by simpa using h2
        by_cases h3 : (c.toNat : Int) < 32
        · have he : isEsc c = true := HC.out.mpr (.inr (.inr h3))
          go_wp2_with (at_builtin; go_must (refine wpList_append_row _ rfl (.tmp 39) (.tmp 42) 140 rfl 5 i0 (.int .u8 0) 1 1 Tryz.underlying140 hi hz0 hz1 hz2 rfl (by decide) _ E.length (cells8 E) rfl (hE.alloc _) _ 2 2 [.int .u8 125, .int .u8 ((c ^^^ 32).toNat : Int)] rfl rfl (by decide) (cells_two _ _ _ _) (one_ints _ _ _ _) m2 b2 ?_))
          intro g2 cap2 w2 hr2 hgr2 hown2
          obtain ⟨hr3, hl3⟩ := hT he g2 cap2 w2 hr2
          have R := row_step hgr2 hown2 hSr hgw hgne hbel
          have HL : Hid _ := hl3
          clear hl3 hgr2 hown2 hr2 hE hSr hbel hcell hx
          go_wp2
          go_roundw
          case rel => exact ⟨k + 1, g2, cap2, _, rfl, by omega, by go_num, by rw [HL.out], by rw [← HL.out]; exact hr3, R.1, R.2.1, R.2.2.1, R.2.2.2⟩
          case measure => simp [intOf]; omega
        · have he : ¬ isEsc c = true := by
           rw [HC.out]
           simp at h1' h2'
           omega
          go_wp2_with (at_builtin; go_must (refine wpList_append_row _ rfl (.tmp 44) (.tmp 46) 140 rfl 5 i0 (.int .u8 0) 1 1 Tryz.underlying140 hi hz0 hz1 hz2 rfl (by decide) _ E.length (cells8 E) rfl (hE.alloc _) _ 1 1 [.int .u8 (c.toNat : Int)] rfl rfl (by decide) (cells_one _ _ _) (one_int _ _) m1 b1 ?_))
          intro g2 cap2 w2 hr2 hgr2 hown2
          obtain ⟨hr3, hl3⟩ := hO he g2 cap2 w2 hr2
          have R := row_step hgr2 hown2 hSr hgw hgne hbel
          have HL : Hid _ := hl3
          clear hl3 hgr2 hown2 hr2 hE hSr hbel hcell hx
          go_wp2
          go_roundw
          case rel => exact ⟨k + 1, g2, cap2, _, rfl, by omega, by go_num, by rw [HL.out], by rw [← HL.out]; exact hr3, R.1, R.2.1, R.2.2.1, R.2.2.2⟩
          case measure => simp [intOf]; omega
  · go_wp2_with (at_builtin; go_must (refine wpList_append_row _ rfl (.tmp 49) (.tmp 50) 140 rfl 5 i0 (.int .u8 0) 1 1 Tryz.underlying140 hi hz0 hz1 hz2 rfl (by decide) _ E.length (cells8 E) rfl (hE.alloc _) _ 1 1 [.int .u8 126] rfl rfl (by decide) (cells_one _ _ _) (one_int _ _) m1 b1 ?_))
    intro g2 cap2 w2 hr2 hgr2 hown2
    have R := row_step hgr2 hown2 hSr hgw hgne hbel
    have hkl : k = L.length := by omega
    have hF : frameL s.data.toList = E ++ [126] := by
     rw [HE.out, hkl, List.take_of_length_le (Nat.le_refl _), hL]; rfl
    have hback : (convert 140 9 (.slice (some ⟨g2, 0, none⟩) (E.length + 1) cap2)).run Tryz.prog w2 = .ok (.string ⟨(E ++ [126]).toArray⟩) w2 := by
     refine Row.back (n := E.length + 1) ?_ 140 9 5 Tryz.underlying140 Tryz.underlying5 Tryz.underlying9
     rw [cells8_append]
     exact hr2
    clear hr2 hgr2 hown2 hE hSr hbel
    have HF : Hid _ := hF
    clear hF hkl
    go_wp2
    go_ret2
    exact ⟨by rw [HF.out]; rfl, R.2.2.2⟩
set_option maxRecDepth 100000 in
theorem make_no (s : ByteArray) (w : World) (hs : 60 < s.size) (hm : s.size ≤ maxLen) :
 Calls Tryz.prog 197 #[.string s] w fun e w' => e = .returned (.tuple #[.string ByteArray.empty, .iface 128 (.int .i64 2)]) ∧ w = w' := by
 unfold maxLen at hm
 have hle : (60 : Int) < (s.size : Int) := by omega
 go_enter Tryz.func197, Tryz.ntmps197
 go_wp2
 go_ret2
 exact ⟨rfl, rfl⟩
end Go.Proofs.YtieklnlbljejdaaGreatDoor

namespace Go.Proofs.YtieklnlbljejdaaGreatDoor
open Go.RowKit Plain
def pku8 (x : Int) : UInt8 := UInt8.ofNat x.toNat
theorem pku8_nat (x : Int) (h0 : 0 ≤ x) (h1 : x ≤ 255) : ((pku8 x).toNat : Int) = x := by
 unfold pku8
 rw [UInt8.toNat_ofNat_of_lt' (by show x.toNat < 256; omega)]
 omega
def optsB (os : List Opt) : List UInt8 := os.flatMap fun o => [pku8 o.1, pku8 o.2]
def packB (code id : Int) (os : List Opt) : List UInt8 := pku8 code :: pku8 id :: pku8 os.length :: optsB os
theorem optsB_snoc (os : List Opt) (o : Opt) : optsB (os ++ [o]) = optsB os ++ [pku8 o.1, pku8 o.2] := by simp [optsB]
theorem optsB_length (os : List Opt) : (optsB os).length = 2 * os.length := by
 induction os with
 | nil => rfl
 | cons o r ih => simp only [optsB, List.flatMap_cons, List.length_append, List.length_cons, List.length_nil] at ih ⊢; omega
theorem pkoptF_all : ∀ (r seen : List Opt), optF seen r = 0 → ∀ o ∈ r, isB o.1 = true ∧ isB o.2 = true
 | [], _, _, o, ho => by simp at ho
 | x :: r, seen, h, o, ho => by
   unfold optF at h
   split at h
   · simp at h
   · rename_i h1
     split at h
     · simp at h
     · rcases List.mem_cons.mp ho with rfl | ho
       · simpa using h1
       · exact pkoptF_all r _ h o ho
theorem packF_zero {code id : Int} {os : List Opt} (h : packF code id os = 0) : 1 ≤ code ∧ code ≤ 6 ∧ (0 ≤ id ∧ id ≤ 255) ∧ os.length ≤ 8 ∧ (5 ≤ code → os.length = 0) ∧ optF [] os = 0 := by
 unfold packF at h
 split at h
 · simp at h
 · rename_i h1
   split at h
   · simp at h
   · split at h
     · simp at h
     · have h2 : isB id = true := by cases hq : isB id <;> simp_all
       exact ⟨by omega, by omega, (isB_iff id).mp h2, by omega, by omega, h⟩
set_option maxRecDepth 100000 in
set_option maxHeartbeats 2000000 in
theorem pkbytes_bad (code id : Int) (a : Option Addr) (n cap : Nat) (os : List Opt) (w : World) (hn : n ≤ 1000000) (hcap : n ≤ cap) (ho : OptR w a n os) (hf : packF code id os ≠ 0) :
 Calls Tryz.prog 175 #[.agg #[.int .i64 code, .int .i64 id, .slice a n cap]] w fun e w' => e = .returned (.tuple #[.string ByteArray.empty, errV (packF code id os)]) ∧ Below w.heap.size w w' := by
 have hw1 : Below w.heap.size w (w.alloc (.cells #[.int .i64 code, .int .i64 id, .slice a n cap] 37)) := (Below.refl _ _).alloc (Nat.le_refl _) _
 have hcall := check_any code id a n cap os (w.alloc (.cells #[.int .i64 code, .int .i64 id, .slice a n cap] 37)) hn hcap (ho.below hw1)
 generalize packF code id os = f at hf hcall
 have e0 : errV f = .iface 128 (.int .i64 (f : Int)) := by simp [errV, hf]
 rw [e0] at hcall ⊢
 clear e0
 go_enter Tryz.func175, Tryz.ntmps175
 go_wp2_with (fail)
 refine hcall.mono ?_
 rintro e w1 ⟨rfl, hb1⟩
 go_wp2_with (fail)
 go_ret2
 exact ⟨rfl, below_chain hw1 hb1⟩
set_option maxRecDepth 100000 in
set_option maxHeartbeats 2000000 in
theorem pkbytes_good (code id : Int) (a : Option Addr) (n cap : Nat) (os : List Opt) (w : World) (hcap : n ≤ cap) (ho : OptR w a n os) (hf : packF code id os = 0) :
 Calls Tryz.prog 175 #[.agg #[.int .i64 code, .int .i64 id, .slice a n cap]] w fun e w' => e = .returned (.tuple #[.string ⟨(packB code id os).toArray⟩, .nilIface]) ∧ Below w.heap.size w w' := by
 obtain ⟨i0, hi, hz0, hz1, hz2⟩ := info_parts info5
 obtain ⟨p1, p2, ⟨p3, p4⟩, p5, p6, p7⟩ := packF_zero hf
 have hall := pkoptF_all os [] p7
 have hl := ho.1
 have hw1 : Below w.heap.size w (w.alloc (.cells #[.int .i64 code, .int .i64 id, .slice a n cap] 37)) := (Below.refl _ _).alloc (Nat.le_refl _) _
 have hcall := check_any code id a n cap os (w.alloc (.cells #[.int .i64 code, .int .i64 id, .slice a n cap] 37)) (by omega) hcap (ho.below hw1)
 have e0 : errV 0 = .nilIface := rfl
 rw [hf, e0] at hcall
 clear e0 p6 p7 hf
 have hcells : ∀ w1 : World, Below (w.alloc (.cells #[.int .i64 code, .int .i64 id, .slice a n cap] 37)).heap.size (w.alloc (.cells #[.int .i64 code, .int .i64 id, .slice a n cap] 37)) w1 →
  w1.cell? ⟨w.heap.size, 0, none⟩ = some (.int .i64 code) ∧ w1.cell? ⟨w.heap.size, 1, none⟩ = some (.int .i64 id) ∧ w1.cell? ⟨w.heap.size, 2, none⟩ = some (.slice a n cap) := by
  intro w1 hb
  have hz : w.heap.size < (w.alloc (.cells #[.int .i64 code, .int .i64 id, .slice a n cap] 37)).heap.size := by simp
  have hA := fun j => World.cell?_alloc_mark w #[.int .i64 code, .int .i64 id, .slice a n cap] 37 (0, 0) j
  exact ⟨(hb.cell (p := ⟨w.heap.size, 0, none⟩) hz).trans (hA 0), (hb.cell (p := ⟨w.heap.size, 1, none⟩) hz).trans (hA 1), (hb.cell (p := ⟨w.heap.size, 2, none⟩) hz).trans (hA 2)⟩
 go_enter Tryz.func175, Tryz.ntmps175
 go_wp2_with (fail)
 refine hcall.mono ?_
 rintro e w1 ⟨rfl, hb1⟩
 obtain ⟨q0, q1, q2⟩ := hcells w1 hb1
 have hw2 := below_chain hw1 hb1
 have hz : w.heap.size < w1.heap.size := by
  have := hb1.size
  simp at this
  omega
 clear hcells hb1 hcall hw1
 go_wp2_with (fail)
 have hE0 : Row (w1.alloc (.cells #[.int .u8 code, .int .u8 id, .int .u8 (n : Int)] 5)) 1 (.slice (some ⟨w1.heap.size, 0, none⟩) 3 3) 3 (cells8 [pku8 code, pku8 id, pku8 os.length]) := by
  refine Row.made w1 1 5 _ (0, 0) 3 3 _ rfl rfl (Nat.le_refl _) (by decide) (.inl rfl) ?_
  intro j u hu
  simp only [cells8, List.map_cons, List.map_nil, pku8_nat code (by omega) (by omega), pku8_nat id p3 p4, hl, pku8_nat (n : Int) (by omega) (by omega)] at hu
  simpa using hu
 have hb0 : Below w.heap.size w (w1.alloc (.cells #[.int .u8 code, .int .u8 id, .int .u8 (n : Int)] 5)) := hw2.alloc hw2.size _
 go_loopw [5, 27] (fun v i wr => ∃ (k g cp : Nat) (E : List UInt8), E = pku8 code :: pku8 id :: pku8 os.length :: optsB (os.take k) ∧ k ≤ n ∧ i = .int .i64 k ∧ v = .slice (some ⟨g, 0, none⟩) E.length cp ∧ Row wr 1 v E.length (cells8 E) ∧
  w.heap.size ≤ g ∧ Below w.heap.size w wr)
  (fun _ i _ => n - (intOf i).toNat)
 case atStart => exact ⟨0, w1.heap.size, 3, _, rfl, Nat.zero_le _, rfl, rfl, hE0, hw2.size, hb0⟩
 case round =>
  obtain ⟨k, g, cp, E, hEq, hk, rfl, rfl, hE, hgw, hbel⟩ := hrel
  have hEl : E.length ≤ 19 := by
   have h1 := optsB_length (os.take k)
   have h2 : (os.take k).length ≤ 8 := by simp; omega
   rw [hEq]; simp only [List.length_cons]; omega
  have HE : Hid (E = pku8 code :: pku8 id :: pku8 os.length :: optsB (os.take k)) := hEq
  have HL : Hid (os.length = n) := hl
  clear hEq hE0 hb0 hl
  have m2 : E.length + 2 ≤ maxLen := by unfold maxLen; omega
  have b2 : (E.length + 2) * 1 ≤ 140737488355328 := by omega
  by_cases hlt : k < n
  · have hor := ho.below hbel
    rcases hor.2 with h0 | ⟨b, off, rfl, hc⟩
    · omega
    have hlo : k < os.length := by rw [HL.out]; exact hlt
    obtain ⟨c1, c2⟩ := hc k hlo
    obtain ⟨a1, a2⟩ := hall os[k] (List.getElem_mem _)
    have HT : Hid (os.take (k + 1) = os.take k ++ [os[k]]) := List.take_succ_eq_append_getElem hlo
    generalize os[k] = o at c1 c2 HT a1 a2
    obtain ⟨o1a, o1b⟩ := (isB_iff o.1).mp a1
    obtain ⟨o2a, o2b⟩ := (isB_iff o.2).mp a2
    clear hc a1 a2 hor
    have hlt' : (k : Int) < (n : Int) := by omega
    have hw3 : Below w.heap.size w (wr.alloc (.cells #[.int .i64 o.1, .int .i64 o.2] 276)) := hbel.alloc hbel.size _
    have hE3 : Row (wr.alloc (.cells #[.int .i64 o.1, .int .i64 o.2] 276)) 1 (.slice (some ⟨g, 0, none⟩) E.length cp) E.length (cells8 E) := hE.alloc _
    go_wp2_with (at_builtin; go_must (refine wpList_append_row _ rfl (.tmp 31) (.tmp 38) 140 rfl 5 i0 (.int .u8 0) 1 1 Tryz.underlying140 hi hz0 hz1 hz2 rfl (by decide) _ E.length (cells8 E) rfl (hE3.alloc _) _ 2 2 [.int .u8 o.1, .int .u8 o.2] rfl rfl (by decide) ?hcc (one_ints _ _ _ _) m2 b2 ?_))
    case hcc =>
     have := cells_two (wr.alloc (.cells #[.int .i64 o.1, .int .i64 o.2] 276)) (.int .u8 o.1) (.int .u8 o.2) 5
     simpa using this
    intro g2 cap2 w2 hr2 hgr2 hown2
    have hown3 : some g = some g2 ∨ (wr.alloc (.cells #[.int .i64 o.1, .int .i64 o.2] 276)).heap.size + 1 ≤ g2 := by
     rcases hown2 with h | h
     · exact .inl h
     · exact .inr (by simp; omega)
    have R := row_step1 hgr2 hown3 hgw hw3
    have hr3 : Row w2 1 (.slice (some ⟨g2, 0, none⟩) (E.length + 2) cap2) (E ++ [pku8 o.1, pku8 o.2]).length (cells8 (E ++ [pku8 o.1, pku8 o.2])) := by
     rw [cells8_append, List.length_append]
     simp only [cells8, List.map_cons, List.map_nil, pku8_nat o.1 o1a o1b, pku8_nat o.2 o2a o2b]
     exact hr2
    have HN : Hid (E ++ [pku8 o.1, pku8 o.2] = pku8 code :: pku8 id :: pku8 os.length :: optsB (os.take (k + 1))) := by
     show E ++ [pku8 o.1, pku8 o.2] = _
     rw [HE.out, HT.out, optsB_snoc]
     rfl
    have HLL : Hid ((E ++ [pku8 o.1, pku8 o.2]).length = E.length + 2) := by show (E ++ [pku8 o.1, pku8 o.2]).length = E.length + 2; simp
    clear hr2 hgr2 hown2 hown3 hE hbel hw3 hE3
    go_wp2_with (fail)
    go_roundw
    case rel => exact ⟨k + 1, g2, cap2, _, HN.out, by omega, by go_num, by rw [HLL.out], hr3, R.1, R.2⟩
    case measure => simp [intOf]; omega
  · have hback : (convert 140 9 (.slice (some ⟨g, 0, none⟩) E.length cp)).run Tryz.prog wr = .ok (.string ⟨E.toArray⟩) wr := Row.back hE 140 9 5 Tryz.underlying140 Tryz.underlying5 Tryz.underlying9
    have HF : Hid (packB code id os = E) := by
     show packB code id os = E
     have hkk : os.take k = os := List.take_of_length_le (by rw [HL.out]; omega)
     rw [HE.out, hkk]; rfl
    clear hE
    go_wp2_with (fail)
    rw [HF.out]
    go_ret2
    exact ⟨rfl, hbel⟩
end Go.Proofs.YtieklnlbljejdaaGreatDoor
