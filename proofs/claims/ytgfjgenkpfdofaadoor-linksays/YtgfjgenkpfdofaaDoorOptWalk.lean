/-
  Options of a packet: what is wrong with them, by the program's checkOptions.
-/
import Derived.Test.YtgfjgenkpfdofaaDoorBase
namespace Go.Proofs.YtgfjgenkpfdofaaDoor
open Go.RowKit

def isB (n : Int) : Bool := decide (0 ≤ n) && decide (n ≤ 255)

set_option maxRecDepth 100000 in
theorem isByte_any (n : Int) (w : World) : Calls Tryd.prog 36 #[.int .i64 n] w fun e w' => e = .returned (.bool (isB n)) ∧ w = w' := by
  by_cases h0 : 0 ≤ n
  · by_cases h1 : n ≤ 255
    · have hb : isB n = true := by simp [isB, h0, h1]
      rw [hb]
      clear hb
      go_enter Tryd.func36, Tryd.ntmps36
      go_wp2
      go_ret
      exact ⟨by first | rfl | (simp; omega), rfl⟩
    · have hb : isB n = false := by simp [isB, h1]
      rw [hb]
      clear hb
      go_enter Tryd.func36, Tryd.ntmps36
      go_wp2
      go_ret
      exact ⟨by first | rfl | (simp; omega), rfl⟩
  · have hb : isB n = false := by simp [isB, h0]
    rw [hb]
    clear hb
    go_enter Tryd.func36, Tryd.ntmps36
    go_wp2
    go_ret
    exact ⟨by first | rfl | (simp; omega), rfl⟩

set_option maxRecDepth 100000 in
theorem closure_any (k n K : Int) (bo : Nat) (w : World) (hbo : bo < w.heap.size) (h : w.cell? ⟨bo, 0, none⟩ = some (.int .i64 K)) :
    Calls Tryd.prog 46 #[.agg #[.int .i64 k, .int .i64 n], .pointer (some ⟨bo, 0, none⟩)] w fun e w' => e = .returned (.bool (k == K)) ∧ Below w.heap.size w w' := by
  go_enter Tryd.func46, Tryd.ntmps46
  go_wp2
  go_ret
  exact ⟨rfl, (Below.refl _ _).alloc (Nat.le_refl _) _⟩

set_option maxRecDepth 100000 in
set_option maxHeartbeats 2000000 in
theorem index_any (a : Option Addr) (n cap : Nat) (os : List Opt) (K : Int) (bo : Nat) (w : World) (hn : n ≤ 1000000) (hbo : bo < w.heap.size) (h : w.cell? ⟨bo, 0, none⟩ = some (.int .i64 K)) (ho : OptR w a n os) :
    Calls Tryd.prog 52 #[.slice a n cap, .func (.func 46) #[] #[.pointer (some ⟨bo, 0, none⟩)]] w fun e w' => ∃ r : Int, e = .returned (.int .i64 r) ∧ (decide (0 ≤ r) = os.any (fun o => o.1 == K)) ∧ Below w.heap.size w w' := by
  go_enter Tryd.func52, Tryd.ntmps52
  go_wp2_with (fail)
  go_loopw [8] (fun i wr => ∃ k : Nat, k ≤ n ∧ i = .int .i64 k ∧ (os.take k).any (fun o => o.1 == K) = false ∧ Below w.heap.size w wr) (fun i _ => n - (intOf i).toNat)
  case atStart => exact ⟨0, Nat.zero_le _, rfl, rfl, Below.refl _ _⟩
  case round =>
    obtain ⟨k, hk, rfl, hany0, hbel⟩ := hrel
    have hany : Hid _ := hany0
    clear hany0
    by_cases hlt : k < n
    · have hor := ho.below hbel
      rcases hor.2 with h0 | ⟨b, off, rfl, hc⟩
      · omega
      have hlo : k < os.length := by rw [ho.1]; exact hlt
      obtain ⟨c1, c2⟩ := hc k hlo
      have hK : wr.cell? ⟨bo, 0, none⟩ = some (.int .i64 K) := (hbel.cell (p := ⟨bo, 0, none⟩) hbo).trans h
      have hbo' : bo < wr.heap.size := Nat.lt_of_lt_of_le hbo hbel.size
      have HT : Hid (os.take (k + 1) = os.take k ++ [os[k]]) := List.take_succ_eq_append_getElem hlo
      have HM : Hid (os[k] ∈ os) := List.getElem_mem _
      generalize os[k] = o at c1 c2 HT HM
      clear hc
      have hlt' : (k : Int) < (n : Int) := by omega
      cases hq : (o.1 == K)
      · go_wp2_with (fail)
        refine (closure_any o.1 o.2 K bo wr hbo' hK).mono ?_
        rintro e w1 ⟨rfl, hb1⟩
        go_wp2_with (fail)
        go_roundw
        case rel => exact ⟨k + 1, by omega, by go_num, by rw [HT.out, List.any_append, hany.out]; simp [hq], below_chain hbel hb1⟩
        case measure => simp [intOf]; omega
      · go_wp2_with (fail)
        refine (closure_any o.1 o.2 K bo wr hbo' hK).mono ?_
        rintro e w1 ⟨rfl, hb1⟩
        go_wp2_with (fail)
        go_ret
        refine ⟨_, rfl, ?_, below_chain hbel hb1⟩
        have h1 : os.any (fun o => o.1 == K) = true := List.any_eq_true.mpr ⟨o, HM.out, hq⟩
        rw [h1]
        simp
    · have hkk : os.take k = os := List.take_of_length_le (by rw [ho.1]; omega)
      rw [hkk] at hany
      go_wp2_with (fail)
      go_ret
      exact ⟨-1, rfl, by rw [hany.out]; rfl, hbel⟩

set_option maxRecDepth 100000 in
theorem contains_any (a : Option Addr) (n cap : Nat) (os : List Opt) (K : Int) (bo : Nat) (w : World) (hn : n ≤ 1000000) (hbo : bo < w.heap.size) (h : w.cell? ⟨bo, 0, none⟩ = some (.int .i64 K)) (ho : OptR w a n os) :
    Calls Tryd.prog 45 #[.slice a n cap, .func (.func 46) #[] #[.pointer (some ⟨bo, 0, none⟩)]] w fun e w' => e = .returned (.bool (os.any (fun o => o.1 == K))) ∧ Below w.heap.size w w' := by
  go_enter Tryd.func45, Tryd.ntmps45
  go_wp2_with (fail)
  refine (index_any a n cap os K bo w hn hbo h ho).mono ?_
  rintro e w1 ⟨r, rfl, hr, hb⟩
  go_wp2_with (fail)
  go_ret
  exact ⟨by rw [← hr]; rfl, hb⟩

/-- What is wrong with options, one by one, behind those that were seen. -/
def optF : List Opt → List Opt → Nat
  | _, [] => 0
  | seen, o :: r => if (isB o.1 && isB o.2) = false then 1 else if seen.any (fun x => x.1 == o.1) = true then 3 else optF (seen ++ [o]) r

set_option maxRecDepth 100000 in
set_option maxHeartbeats 2000000 in
theorem checkOptions_any (a : Option Addr) (n cap : Nat) (os : List Opt) (w : World) (hn : n ≤ 1000000) (hcap : n ≤ cap) (ho : OptR w a n os) :
    Calls Tryd.prog 37 #[.slice a n cap] w fun e w' => e = .returned (errV (optF [] os)) ∧ Below w.heap.size w w' := by
  go_enter Tryd.func37, Tryd.ntmps37
  go_wp2_with (fail)
  go_loopw [7] (fun i wr => ∃ k : Nat, k ≤ n ∧ i = .int .i64 k ∧ optF [] os = optF (os.take k) (os.drop k) ∧ Below w.heap.size w wr) (fun i _ => n - (intOf i).toNat)
  case atStart => exact ⟨0, Nat.zero_le _, rfl, rfl, Below.refl _ _⟩
  case round =>
    obtain ⟨k, hk, rfl, hF0, hbel⟩ := hrel
    have hF : Hid _ := hF0
    clear hF0
    by_cases hlt : k < n
    · have hor := ho.below hbel
      have hpre := hor.take k (by omega)
      rcases hor.2 with h0 | ⟨b, off, rfl, hc⟩
      · omega
      have hlo : k < os.length := by rw [ho.1]; exact hlt
      obtain ⟨c1, c2⟩ := hc k hlo
      have HT : Hid (os.take (k + 1) = os.take k ++ [os[k]]) := List.take_succ_eq_append_getElem hlo
      have HD : Hid (os.drop k = os[k] :: os.drop (k + 1)) := List.drop_eq_getElem_cons hlo
      generalize os[k] = o at c1 c2 HT HD
      clear hc
      have hlt' : (k : Int) < (n : Int) := by omega
      have hw1 : Below w.heap.size w (wr.alloc (.cells #[.int .i64 o.1, .int .i64 o.2] 69)) := hbel.alloc hbel.size _
      have hpre1 : OptR (wr.alloc (.cells #[.int .i64 o.1, .int .i64 o.2] 69)) (some ⟨b, off, none⟩) k (os.take k) := hpre.below ((Below.refl _ _).alloc (Nat.le_refl _) _)
      have hcK : (wr.alloc (.cells #[.int .i64 o.1, .int .i64 o.2] 69)).cell? ⟨wr.heap.size, 0, none⟩ = some (.int .i64 o.1) := World.cell?_alloc_mark wr #[.int .i64 o.1, .int .i64 o.2] 69 (0, 0) 0
      have hcall := contains_any (some ⟨b, off, none⟩) k cap (os.take k) o.1 wr.heap.size (wr.alloc (.cells #[.int .i64 o.1, .int .i64 o.2] 69)) (by omega) (by simp) hcK hpre1
      clear hpre hpre1 hor
      cases hq1 : isB o.1
      · have HE : Hid (optF [] os = 1) := by
          show optF [] os = 1
          rw [hF.out, HD.out, optF, if_pos (by simp [hq1])]
        go_wp2_with (fail)
        refine (isByte_any o.1 _).mono ?_
        rintro e w1 ⟨rfl, rfl⟩
        go_wp2_with (fail)
        rw [HE.out]
        go_ret
        exact ⟨rfl, hw1⟩
      · cases hq2 : isB o.2
        · have HE : Hid (optF [] os = 1) := by
            show optF [] os = 1
            rw [hF.out, HD.out, optF, if_pos (by simp [hq2])]
          go_wp2_with (fail)
          refine (isByte_any o.1 _).mono ?_
          rintro e w1 ⟨rfl, rfl⟩
          go_wp2_with (fail)
          refine (isByte_any o.2 _).mono ?_
          rintro e w1 ⟨rfl, rfl⟩
          go_wp2_with (fail)
          rw [HE.out]
          go_ret
          exact ⟨rfl, hw1⟩
        · cases hq3 : (os.take k).any (fun x => x.1 == o.1)
          · have HE : Hid (optF [] os = optF (os.take (k + 1)) (os.drop (k + 1))) := by
              show optF [] os = _
              rw [hF.out, HD.out, optF, if_neg (by simp [hq1, hq2]), if_neg (by simp [hq3]), HT.out]
            rw [hq3] at hcall
            clear hq3
            go_wp2_with (fail)
            refine (isByte_any o.1 _).mono ?_
            rintro e w1 ⟨rfl, rfl⟩
            go_wp2_with (fail)
            refine (isByte_any o.2 _).mono ?_
            rintro e w1 ⟨rfl, rfl⟩
            go_wp2_with (fail)
            refine hcall.mono ?_
            rintro e w1 ⟨rfl, hb1⟩
            go_wp2_with (fail)
            go_roundw
            case rel => exact ⟨k + 1, by omega, by go_num, HE.out, below_chain hw1 hb1⟩
            case measure => simp [intOf]; omega
          · have HE : Hid (optF [] os = 3) := by
              show optF [] os = 3
              rw [hF.out, HD.out, optF, if_neg (by simp [hq1, hq2]), if_pos hq3]
            rw [hq3] at hcall
            clear hq3
            go_wp2_with (fail)
            refine (isByte_any o.1 _).mono ?_
            rintro e w1 ⟨rfl, rfl⟩
            go_wp2_with (fail)
            refine (isByte_any o.2 _).mono ?_
            rintro e w1 ⟨rfl, rfl⟩
            go_wp2_with (fail)
            refine hcall.mono ?_
            rintro e w1 ⟨rfl, hb1⟩
            go_wp2_with (fail)
            rw [HE.out]
            go_ret
            exact ⟨rfl, below_chain hw1 hb1⟩
    · have HE : Hid (optF [] os = 0) := by
        show optF [] os = 0
        have hdd : os.drop k = [] := List.drop_eq_nil_of_le (by rw [ho.1]; omega)
        rw [hF.out, hdd, optF]
      go_wp2_with (fail)
      rw [HE.out]
      go_ret
      exact ⟨rfl, hbel⟩

/-- What is wrong with a packet. -/
def packF (code id : Int) (os : List Opt) : Nat :=
  if code < 1 ∨ 6 < code ∨ isB id = false then 1
  else if 8 < os.length then 2
  else if 5 ≤ code ∧ 0 < os.length then 3
  else optF [] os

set_option maxRecDepth 100000 in
set_option maxHeartbeats 2000000 in
theorem check_any (code id : Int) (a : Option Addr) (n cap : Nat) (os : List Opt) (w : World) (hn : n ≤ 1000000) (hcap : n ≤ cap) (ho : OptR w a n os) :
    Calls Tryd.prog 24 #[.agg #[.int .i64 code, .int .i64 id, .slice a n cap]] w fun e w' => e = .returned (errV (packF code id os)) ∧ Below w.heap.size w w' := by
  have hl := ho.1
  have hw1 : Below w.heap.size w (w.alloc (.cells #[.int .i64 code, .int .i64 id, .slice a n cap] 36)) := (Below.refl _ _).alloc (Nat.le_refl _) _
  have hcall := checkOptions_any a n cap os (w.alloc (.cells #[.int .i64 code, .int .i64 id, .slice a n cap] 36)) hn hcap (ho.below hw1)
  by_cases h1 : code < 1
  · have HE : Hid (packF code id os = 1) := by show packF code id os = 1; simp [packF, h1]
    go_enter Tryd.func24, Tryd.ntmps24
    go_wp2_with (fail)
    rw [HE.out]
    go_ret
    exact ⟨rfl, hw1⟩
  · by_cases h2 : 6 < code
    · have HE : Hid (packF code id os = 1) := by show packF code id os = 1; simp [packF, h2]
      go_enter Tryd.func24, Tryd.ntmps24
      go_wp2_with (fail)
      rw [HE.out]
      go_ret
      exact ⟨rfl, hw1⟩
    · cases h3 : isB id
      · have HE : Hid (packF code id os = 1) := by show packF code id os = 1; simp [packF, h3]
        go_enter Tryd.func24, Tryd.ntmps24
        go_wp2_with (fail)
        refine (isByte_any id _).mono ?_
        rintro e w1 ⟨rfl, rfl⟩
        go_wp2_with (fail)
        rw [HE.out]
        go_ret
        exact ⟨rfl, hw1⟩
      · by_cases h4 : (8 : Int) < (n : Int)
        · have HE : Hid (packF code id os = 2) := by
            show packF code id os = 2
            rw [packF, if_neg (by simp [h3]; omega), if_pos (by omega)]
          go_enter Tryd.func24, Tryd.ntmps24
          go_wp2_with (fail)
          refine (isByte_any id _).mono ?_
          rintro e w1 ⟨rfl, rfl⟩
          go_wp2_with (fail)
          rw [HE.out]
          go_ret
          exact ⟨rfl, hw1⟩
        · by_cases h5 : 5 ≤ code
          · by_cases h6 : (0 : Int) < (n : Int)
            · have HE : Hid (packF code id os = 3) := by
                show packF code id os = 3
                rw [packF, if_neg (by simp [h3]; omega), if_neg (by omega), if_pos (by omega)]
              go_enter Tryd.func24, Tryd.ntmps24
              go_wp2_with (fail)
              refine (isByte_any id _).mono ?_
              rintro e w1 ⟨rfl, rfl⟩
              go_wp2_with (fail)
              rw [HE.out]
              go_ret
              exact ⟨rfl, hw1⟩
            · have HE : Hid (packF code id os = optF [] os) := by
                show packF code id os = _
                rw [packF, if_neg (by simp [h3]; omega), if_neg (by omega), if_neg (by omega)]
              go_enter Tryd.func24, Tryd.ntmps24
              go_wp2_with (fail)
              refine (isByte_any id _).mono ?_
              rintro e w1 ⟨rfl, rfl⟩
              go_wp2_with (fail)
              refine hcall.mono ?_
              rintro e w1 ⟨rfl, hb1⟩
              go_wp2_with (fail)
              rw [HE.out]
              go_ret
              exact ⟨rfl, below_chain hw1 hb1⟩
          · have HE : Hid (packF code id os = optF [] os) := by
              show packF code id os = _
              rw [packF, if_neg (by simp [h3]; omega), if_neg (by omega), if_neg (by omega)]
            go_enter Tryd.func24, Tryd.ntmps24
            go_wp2_with (fail)
            refine (isByte_any id _).mono ?_
            rintro e w1 ⟨rfl, rfl⟩
            go_wp2_with (fail)
            refine hcall.mono ?_
            rintro e w1 ⟨rfl, hb1⟩
            go_wp2_with (fail)
            rw [HE.out]
            go_ret
            exact ⟨rfl, below_chain hw1 hb1⟩
end Go.Proofs.YtgfjgenkpfdofaaDoor
