/-
  'TopSum' returns true at every text, place and byte, and changes nothing that was there.
  Conditions: the text is one that Go can hold; the byte is one.
-/
import Derived.Test.YtnafklmigndgeaaSumWalk
import Derived.Laws.IdiomStrings
import Derived.OpenShut
namespace Go.Proofs.Ytnafklmigndgeaa.topSum
open Go.RowKit Go.ChangeShapes Go.WideShapes Go.ChangeAt Plain

theorem and_mask (a : Int) : ∃ m : Nat, m ≤ 1023 ∧ bits .and .i64 a 1023 = (m : Int) := by
  have e : (BitVec.ofInt 64 a &&& BitVec.ofInt 64 1023).toNat ≤ 1023 := by
    rw [BitVec.toNat_and]
    exact Nat.and_le_right
  refine ⟨(BitVec.ofInt 64 a &&& BitVec.ofInt 64 1023).toNat, e, ?_⟩
  show IntKind.i64.wrap ((BitVec.ofInt 64 a &&& BitVec.ofInt 64 1023).toNat : Int) = _
  rw [IntKind.wrap_i64]
  omega

set_option maxRecDepth 100000 in
set_option maxHeartbeats 1000000 in
theorem walk_yes (s r : ByteArray) (at' : Int) (m i cap : Nat) (t : Int) (x : Int) (C : Array Value) (w : World) (hs : s.size ≤ 300) (hpos : 0 < s.size) (ht : (t == 0) = false)
    (hm : bits .and .i64 at' 1023 = (m : Int)) (hm2 : m ≤ 1023) (hi : (m : Int) % (s.size : Int) = (i : Int)) (hi2 : i < s.size)
    (hconv : (convert 9 62 (.string s)).run Try.prog w = .ok (.slice (some ⟨w.heap.size, 0, none⟩) s.size cap) (w.drew.alloc (.cells C 5 (C.size, C.size + 1))))
    (hc : (w.alloc (.cells C 5 (C.size, C.size + 1))).cell? ⟨w.heap.size, i, none⟩ = some (.int .u8 x)) (hz : (w.alloc (.cells C 5 (C.size, C.size + 1))).frozen? ⟨w.heap.size, i, none⟩ = false)
    (hback : (convert 62 9 (.slice (some ⟨w.heap.size, 0, none⟩) s.size cap)).run Try.prog ((w.alloc (.cells C 5 (C.size, C.size + 1))).setCell ⟨w.heap.size, i, none⟩ (.int .u8 (bits .xor .u8 x t))).drew = .ok (.string r) ((w.alloc (.cells C 5 (C.size, C.size + 1))).setCell ⟨w.heap.size, i, none⟩ (.int .u8 (bits .xor .u8 x t))).drew)
    (hr : r.size ≤ 300) (hsum : (((Plain.sum r.data.toList : Nat) : Int) != ((Plain.sum s.data.toList : Nat) : Int)) = true) :
    Calls Try.prog 7 #[.string s, .int .i64 at', .int .u8 t] w fun e w' => e = .returned (.bool true) ∧ w' = ((w.alloc (.cells C 5 (C.size, C.size + 1))).setCell ⟨w.heap.size, i, none⟩ (.int .u8 (bits .xor .u8 x t))).drew := by
  have hne : ((s.size : Int) == 0) = false := by rw [beq_eq_false_iff_ne]; omega
  have hle : ¬ (300 : Int) < (s.size : Int) := by omega
  have hab : (((Plain.sum [97] : Nat) : Int) == ((Plain.sum [98] : Nat) : Int)) = false := by decide +kernel
  go_enter Try.func7, Try.ntmps7
  go_wp2_with (go_at_call 13; refine (sum_any _ _ ?hx).mono ?_; (case hx => first | decide | (unfold maxLen; omega)); rintro e w' ⟨rfl, rfl⟩)
  go_ret
  exact ⟨rfl, rfl⟩

set_option maxRecDepth 100000 in
set_option maxHeartbeats 1000000 in
theorem walk_no (s : ByteArray) (at' t : Int) (w : World) (hs : s.size ≤ maxLen) (h : s.size = 0 ∨ 300 < s.size ∨ t = 0) :
    Calls Try.prog 7 #[.string s, .int .i64 at', .int .u8 t] w fun e w' => e = .returned (.bool true) ∧ w' = w := by
  have hab : (((Plain.sum [97] : Nat) : Int) == ((Plain.sum [98] : Nat) : Int)) = false := by decide +kernel
  unfold maxLen at hs
  by_cases h0 : s.size = 0
  · have hne : ((s.size : Int) == 0) = true := by rw [beq_iff_eq]; omega
    go_enter Try.func7, Try.ntmps7
    go_wp2_with (go_at_call 13; refine (sum_any _ _ ?hx).mono ?_; (case hx => decide); rintro e w' ⟨rfl, rfl⟩)
    go_ret
    exact ⟨rfl, rfl⟩
  · have hne : ((s.size : Int) == 0) = false := by rw [beq_eq_false_iff_ne]; omega
    by_cases h1 : (300 : Int) < (s.size : Int)
    · go_enter Try.func7, Try.ntmps7
      go_wp2_with (go_at_call 13; refine (sum_any _ _ ?hx).mono ?_; (case hx => decide); rintro e w' ⟨rfl, rfl⟩)
      go_ret
      exact ⟨rfl, rfl⟩
    · have ht : t = 0 := by omega
      subst ht
      go_enter Try.func7, Try.ntmps7
      go_wp2_with (go_at_call 13; refine (sum_any _ _ ?hx).mono ?_; (case hx => decide); rintro e w' ⟨rfl, rfl⟩)
      go_ret
      exact ⟨rfl, rfl⟩

theorem walk (s : ByteArray) (at' t : Int) (hs : s.size ≤ maxLen) (ht : (Lit.int .u8 t).wf = true) (w : World) :
    Calls Try.prog 7 #[.string s, .int .i64 at', .int .u8 t] w fun e w' => e = .returned (.bool true) ∧ Below w.heap.size w w' := by
  by_cases h : s.size = 0 ∨ 300 < s.size ∨ t = 0
  · refine (walk_no s at' t w hs h).mono ?_
    rintro e w' ⟨rfl, rfl⟩
    exact ⟨rfl, Below.refl _ _⟩
  · obtain ⟨m, hm2, hm⟩ := and_mask at'
    have hpos : 0 < s.size := by omega
    have hi2 : m % s.size < s.size := Nat.mod_lt _ hpos
    have hi2' : m % s.size < s.data.size := hi2
    have bt := bounds_u8 ht
    have hb := s.data[m % s.size].toNat_lt
    have hx : bits .xor .u8 (s.data[m % s.size].toNat : Int) t = (((s.data[m % s.size] ^^^ UInt8.ofNat t.toNat).toNat : Nat) : Int) := by
      have e := u8_xor_nat s.data[m % s.size].toNat t.toNat (by omega) (by omega)
      rw [UInt8.toNat_xor, UInt8.toNat_ofNat_of_lt' (by show t.toNat < 256; omega), ← e, Int.toNat_of_nonneg bt.1]
    have hd : s.data[m % s.size] ^^^ UInt8.ofNat t.toNat ≠ s.data[m % s.size] := by
      intro e
      have e1 := congrArg UInt8.toNat e
      rw [UInt8.toNat_xor, UInt8.toNat_ofNat_of_lt' (by show t.toNat < 256; omega)] at e1
      have e2 := congrArg (s.data[m % s.size].toNat ^^^ ·) e1
      simp [← Nat.xor_assoc] at e2
      omega
    have hrow := fun j => bytesRow_at s (grownCap w s.size 0 5) j
    have hsz : s.size ≤ (bytesRow s (grownCap w s.size 0 5)).size := by simp [bytesRow]
    have hconv := run_bytes_of_string (P := Try.prog) w 9 62 5 s Try.underlying9 Try.underlying62 Try.underlying5
    generalize hC : bytesRow s (grownCap w s.size 0 5) = C at hrow hconv hsz
    generalize grownCap w s.size 0 5 = cap at *
    have hc : ∀ j (hj : j < s.data.size), (w.alloc (.cells C 5 (C.size, C.size + 1))).cell? ⟨w.heap.size, j, none⟩ = some (.int .u8 (s.data[j].toNat : Int)) := fun j hj => by
      rw [World.cell?_alloc_mark, hrow j hj]
    have hz : (w.alloc (.cells C 5 (C.size, C.size + 1))).frozen? ⟨w.heap.size, m % s.size, none⟩ = false := by
      rw [World.frozen?_alloc_mark]
      simp
      omega
    have hlen : (s.data.toList.set (m % s.size) (s.data[m % s.size] ^^^ UInt8.ofNat t.toNat)).length = s.size := by simp
    have hback := run_convert_bytes_back (P := Try.prog) ((w.alloc (.cells C 5 (C.size, C.size + 1))).setCell ⟨w.heap.size, m % s.size, none⟩ (.int .u8 (bits .xor .u8 (s.data[m % s.size].toNat : Int) t))).drew 62 9 5
      ⟨w.heap.size, 0, none⟩ cap (s.data.toList.set (m % s.size) (s.data[m % s.size] ^^^ UInt8.ofNat t.toNat)) Try.underlying62 Try.underlying5 Try.underlying9 (fun j hj => by
        rw [hlen] at hj
        have hj' : j < s.data.size := hj
        have ha : (⟨w.heap.size, 0, none⟩ : Addr).add j = ⟨w.heap.size, j, none⟩ := by unfold Addr.add; split <;> simp_all
        rw [ha, World.cell?_drew]
        by_cases e : m % s.size = j
        · subst e
          rw [World.cell?_setCell_same _ _ _ (hc _ hi2'), hx]
          simp
        · rw [World.cell?_setCell_other _ _ _ _ (by simp), hc j hj']
          simp [e])
    rw [hlen] at hback
    refine (walk_yes s _ at' m (m % s.size) cap t _ C w (by omega) hpos (by rw [beq_eq_false_iff_ne]; omega) hm hm2 (by omega) hi2 hconv (hc _ hi2') hz hback ?_ ?_).mono ?_
    · show (s.data.toList.set _ _).toArray.size ≤ 300
      simp
      show s.size ≤ 300
      omega
    · rw [bne_iff_ne]
      intro e
      have e1 : Plain.sum (s.data.toList.set (m % s.size) (s.data[m % s.size] ^^^ UInt8.ofNat t.toNat)) = Plain.sum s.data.toList := by
        have := Int.ofNat_inj.mp e
        simpa using this
      have hl : m % s.size < s.data.toList.length := by simpa using hi2'
      have e2 : s.data.toList = s.data.toList.take (m % s.size) ++ s.data[m % s.size] :: s.data.toList.drop (m % s.size + 1) := by
        rw [← Array.getElem_toList, ← List.drop_eq_getElem_cons hl, List.take_append_drop]
      rw [List.set_eq_take_append_cons_drop, if_pos hl] at e1
      conv at e1 => rhs; rw [e2]
      exact Plain.sum_other _ _ _ _ hd e1
    · rintro e w' ⟨rfl, rfl⟩
      exact ⟨rfl, (((Below.refl _ _).alloc (Nat.le_refl _) _).setCell (by simp) _).drew⟩
end Go.Proofs.Ytnafklmigndgeaa.topSum
