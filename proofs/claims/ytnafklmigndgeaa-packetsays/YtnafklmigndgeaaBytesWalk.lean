/-
  A packet's bytes, by the program's Bytes.
-/
import Derived.Test.YtnafklmigndgeaaOptWalk
import Derived.Test.YtnafklmigndgeaaMakeWalk
namespace Go.Proofs.Ytnafklmigndgeaa
open Go.RowKit Plain

def u8 (x : Int) : UInt8 := UInt8.ofNat x.toNat
theorem u8_nat (x : Int) (h0 : 0 ≤ x) (h1 : x ≤ 255) : ((u8 x).toNat : Int) = x := by
  unfold u8
  rw [UInt8.toNat_ofNat_of_lt' (by show x.toNat < 256; omega)]
  omega
theorem isB_iff (x : Int) : isB x = true ↔ 0 ≤ x ∧ x ≤ 255 := by simp [isB]
def optsB (os : List Opt) : List UInt8 := os.flatMap fun o => [u8 o.1, u8 o.2]
def packB (code id : Int) (os : List Opt) : List UInt8 := u8 code :: u8 id :: u8 os.length :: optsB os
theorem optsB_snoc (os : List Opt) (o : Opt) : optsB (os ++ [o]) = optsB os ++ [u8 o.1, u8 o.2] := by simp [optsB]
theorem optsB_length (os : List Opt) : (optsB os).length = 2 * os.length := by
  induction os with
  | nil => rfl
  | cons o r ih => simp only [optsB, List.flatMap_cons, List.length_append, List.length_cons, List.length_nil] at ih ⊢; omega
theorem optF_all : ∀ (r seen : List Opt), optF seen r = 0 → ∀ o ∈ r, isB o.1 = true ∧ isB o.2 = true
  | [], _, _, o, ho => by simp at ho
  | x :: r, seen, h, o, ho => by
    unfold optF at h
    split at h
    · simp at h
    · rename_i h1
      split at h
      · simp at h
      · rcases List.mem_cons.mp ho with rfl | ho
        · simpa using h1
        · exact optF_all r _ h o ho
theorem packF_zero {code id : Int} {os : List Opt} (h : packF code id os = 0) : 1 ≤ code ∧ code ≤ 6 ∧ (0 ≤ id ∧ id ≤ 255) ∧ os.length ≤ 8 ∧ (5 ≤ code → os.length = 0) ∧ optF [] os = 0 := by
  unfold packF at h
  split at h
  · simp at h
  · rename_i h1
    split at h
    · simp at h
    · split at h
      · simp at h
      · have h2 : isB id = true := by cases hq : isB id <;> simp_all
        exact ⟨by omega, by omega, (isB_iff id).mp h2, by omega, by omega, h⟩

theorem cells_three (w : World) (x y z : Value) (t : TypeId) : ∀ (j : Nat) (u : Value), [x, y, z][j]? = some u → (w.alloc (.cells #[x, y, z] t)).cell? ((⟨w.heap.size, 0, none⟩ : Addr).add j) = some u := by
  intro j u hu
  rw [add_plain, World.cell?_alloc_mark]
  simpa using hu

set_option maxRecDepth 100000 in
set_option maxHeartbeats 2000000 in
theorem bytes_bad (code id : Int) (a : Option Addr) (n cap : Nat) (os : List Opt) (w : World) (hn : n ≤ 1000000) (hcap : n ≤ cap) (ho : OptR w a n os) (hf : packF code id os ≠ 0) :
    Calls Try.prog 22 #[.agg #[.int .i64 code, .int .i64 id, .slice a n cap]] w fun e w' => e = .returned (.tuple #[.string ByteArray.empty, errV (packF code id os)]) ∧ Below w.heap.size w w' := by
  have hw1 : Below w.heap.size w (w.alloc (.cells #[.int .i64 code, .int .i64 id, .slice a n cap] 47)) := (Below.refl _ _).alloc (Nat.le_refl _) _
  have hcall := check_any code id a n cap os (w.alloc (.cells #[.int .i64 code, .int .i64 id, .slice a n cap] 47)) hn hcap (ho.below hw1)
  generalize packF code id os = f at hf hcall
  have e0 : errV f = .iface 64 (.int .i64 (f : Int)) := by simp [errV, hf]
  rw [e0] at hcall ⊢
  clear e0
  go_enter Try.func22, Try.ntmps22
  go_wp2_with (fail)
  refine hcall.mono ?_
  rintro e w1 ⟨rfl, hb1⟩
  go_wp2_with (fail)
  go_ret2
  exact ⟨rfl, below_chain hw1 hb1⟩

set_option maxRecDepth 100000 in
set_option maxHeartbeats 2000000 in
theorem bytes_good (code id : Int) (a : Option Addr) (n cap : Nat) (os : List Opt) (w : World) (hcap : n ≤ cap) (ho : OptR w a n os) (hf : packF code id os = 0) :
    Calls Try.prog 22 #[.agg #[.int .i64 code, .int .i64 id, .slice a n cap]] w fun e w' => e = .returned (.tuple #[.string ⟨(packB code id os).toArray⟩, .nilIface]) ∧ Below w.heap.size w w' := by
  obtain ⟨i0, hi, hz0, hz1, hz2⟩ := info_parts info5
  obtain ⟨p1, p2, ⟨p3, p4⟩, p5, p6, p7⟩ := packF_zero hf
  have hall := optF_all os [] p7
  have hl := ho.1
  have hw1 : Below w.heap.size w (w.alloc (.cells #[.int .i64 code, .int .i64 id, .slice a n cap] 47)) := (Below.refl _ _).alloc (Nat.le_refl _) _
  have hcall := check_any code id a n cap os (w.alloc (.cells #[.int .i64 code, .int .i64 id, .slice a n cap] 47)) (by omega) hcap (ho.below hw1)
  have e0 : errV 0 = .nilIface := rfl
  rw [hf, e0] at hcall
  clear e0 p6 p7 hf
  have hcells : ∀ w1 : World, Below (w.alloc (.cells #[.int .i64 code, .int .i64 id, .slice a n cap] 47)).heap.size (w.alloc (.cells #[.int .i64 code, .int .i64 id, .slice a n cap] 47)) w1 →
      w1.cell? ⟨w.heap.size, 0, none⟩ = some (.int .i64 code) ∧ w1.cell? ⟨w.heap.size, 1, none⟩ = some (.int .i64 id) ∧ w1.cell? ⟨w.heap.size, 2, none⟩ = some (.slice a n cap) := by
    intro w1 hb
    have hz : w.heap.size < (w.alloc (.cells #[.int .i64 code, .int .i64 id, .slice a n cap] 47)).heap.size := by simp
    have hA := fun j => World.cell?_alloc_mark w #[.int .i64 code, .int .i64 id, .slice a n cap] 47 (0, 0) j
    exact ⟨(hb.cell (p := ⟨w.heap.size, 0, none⟩) hz).trans (hA 0), (hb.cell (p := ⟨w.heap.size, 1, none⟩) hz).trans (hA 1), (hb.cell (p := ⟨w.heap.size, 2, none⟩) hz).trans (hA 2)⟩
  go_enter Try.func22, Try.ntmps22
  go_wp2_with (fail)
  refine hcall.mono ?_
  rintro e w1 ⟨rfl, hb1⟩
  obtain ⟨q0, q1, q2⟩ := hcells w1 hb1
  have hw2 := below_chain hw1 hb1
  have hz : w.heap.size < w1.heap.size := by
    have := hb1.size
    simp at this
    omega
  clear hcells hb1 hcall hw1
  go_wp2_with (fail)
  have hE0 : Row (w1.alloc (.cells #[.int .u8 code, .int .u8 id, .int .u8 (n : Int)] 5)) 1 (.slice (some ⟨w1.heap.size, 0, none⟩) 3 3) 3 (cells8 [u8 code, u8 id, u8 os.length]) := by
    refine Row.made w1 1 5 _ (0, 0) 3 3 _ rfl rfl (Nat.le_refl _) (by decide) (.inl rfl) ?_
    intro j u hu
    simp only [cells8, List.map_cons, List.map_nil, u8_nat code (by omega) (by omega), u8_nat id p3 p4, hl, u8_nat (n : Int) (by omega) (by omega)] at hu
    simpa using hu
  have hb0 : Below w.heap.size w (w1.alloc (.cells #[.int .u8 code, .int .u8 id, .int .u8 (n : Int)] 5)) := hw2.alloc hw2.size _
  go_loopw [5, 27] (fun v i wr => ∃ (k g cp : Nat) (E : List UInt8), E = u8 code :: u8 id :: u8 os.length :: optsB (os.take k) ∧ k ≤ n ∧ i = .int .i64 k ∧ v = .slice (some ⟨g, 0, none⟩) E.length cp ∧ Row wr 1 v E.length (cells8 E) ∧
      w.heap.size ≤ g ∧ Below w.heap.size w wr)
    (fun _ i _ => n - (intOf i).toNat)
  case atStart => exact ⟨0, w1.heap.size, 3, _, rfl, Nat.zero_le _, rfl, rfl, hE0, hw2.size, hb0⟩
  case round =>
    obtain ⟨k, g, cp, E, hEq, hk, rfl, rfl, hE, hgw, hbel⟩ := hrel
    have hEl : E.length ≤ 19 := by
      have h1 := optsB_length (os.take k)
      have h2 : (os.take k).length ≤ 8 := by simp; omega
      rw [hEq]; simp only [List.length_cons]; omega
    have HE : Hid (E = u8 code :: u8 id :: u8 os.length :: optsB (os.take k)) := hEq
    have HL : Hid (os.length = n) := hl
    clear hEq hE0 hb0 hl
    have m2 : E.length + 2 ≤ maxLen := by unfold maxLen; omega
    have b2 : (E.length + 2) * 1 ≤ 140737488355328 := by omega
    by_cases hlt : k < n
    · have hor := ho.below hbel
      rcases hor.2 with h0 | ⟨b, off, rfl, hc⟩
      · omega
      have hlo : k < os.length := by rw [HL.out]; exact hlt
      obtain ⟨c1, c2⟩ := hc k hlo
      obtain ⟨a1, a2⟩ := hall os[k] (List.getElem_mem _)
      have HT : Hid (os.take (k + 1) = os.take k ++ [os[k]]) := List.take_succ_eq_append_getElem hlo
      generalize os[k] = o at c1 c2 HT a1 a2
      obtain ⟨o1a, o1b⟩ := (isB_iff o.1).mp a1
      obtain ⟨o2a, o2b⟩ := (isB_iff o.2).mp a2
      clear hc a1 a2 hor
      have hlt' : (k : Int) < (n : Int) := by omega
      have hw3 : Below w.heap.size w (wr.alloc (.cells #[.int .i64 o.1, .int .i64 o.2] 70)) := hbel.alloc hbel.size _
      have hE3 : Row (wr.alloc (.cells #[.int .i64 o.1, .int .i64 o.2] 70)) 1 (.slice (some ⟨g, 0, none⟩) E.length cp) E.length (cells8 E) := hE.alloc _
      go_wp2_with (at_builtin; go_must (refine wpList_append_row _ rfl (.tmp 31) (.tmp 38) 62 rfl 5 i0 (.int .u8 0) 1 1 Try.underlying62 hi hz0 hz1 hz2 rfl (by decide) _ E.length (cells8 E) rfl (hE3.alloc _) _ 2 2 [.int .u8 o.1, .int .u8 o.2] rfl rfl (by decide) ?hcc (one_ints _ _ _ _) m2 b2 ?_))
      case hcc =>
        have := cells_two (wr.alloc (.cells #[.int .i64 o.1, .int .i64 o.2] 70)) (.int .u8 o.1) (.int .u8 o.2) 5
        simpa using this
      intro g2 cap2 w2 hr2 hgr2 hown2
      have hown3 : some g = some g2 ∨ (wr.alloc (.cells #[.int .i64 o.1, .int .i64 o.2] 70)).heap.size + 1 ≤ g2 := by
        rcases hown2 with h | h
        · exact .inl h
        · exact .inr (by simp; omega)
      have R := row_step1 hgr2 hown3 hgw hw3
      have hr3 : Row w2 1 (.slice (some ⟨g2, 0, none⟩) (E.length + 2) cap2) (E ++ [u8 o.1, u8 o.2]).length (cells8 (E ++ [u8 o.1, u8 o.2])) := by
        rw [cells8_append, List.length_append]
        simp only [cells8, List.map_cons, List.map_nil, u8_nat o.1 o1a o1b, u8_nat o.2 o2a o2b]
        exact hr2
      have HN : Hid (E ++ [u8 o.1, u8 o.2] = u8 code :: u8 id :: u8 os.length :: optsB (os.take (k + 1))) := by
        show E ++ [u8 o.1, u8 o.2] = _
        rw [HE.out, HT.out, optsB_snoc]
        rfl
      have HLL : Hid ((E ++ [u8 o.1, u8 o.2]).length = E.length + 2) := by show (E ++ [u8 o.1, u8 o.2]).length = E.length + 2; simp
      clear hr2 hgr2 hown2 hown3 hE hbel hw3 hE3
      go_wp2_with (fail)
      go_roundw
      case rel => exact ⟨k + 1, g2, cap2, _, HN.out, by omega, by go_num, by rw [HLL.out], hr3, R.1, R.2⟩
      case measure => simp [intOf]; omega
    · have hback : (convert 62 9 (.slice (some ⟨g, 0, none⟩) E.length cp)).run Try.prog wr = .ok (.string ⟨E.toArray⟩) wr := Row.back hE 62 9 5 Try.underlying62 Try.underlying5 Try.underlying9
      have HF : Hid (packB code id os = E) := by
        show packB code id os = E
        have hkk : os.take k = os := List.take_of_length_le (by rw [HL.out]; omega)
        rw [HE.out, hkk]; rfl
      clear hE
      go_wp2_with (fail)
      rw [HF.out]
      go_ret2
      exact ⟨rfl, hbel⟩
end Go.Proofs.Ytnafklmigndgeaa
