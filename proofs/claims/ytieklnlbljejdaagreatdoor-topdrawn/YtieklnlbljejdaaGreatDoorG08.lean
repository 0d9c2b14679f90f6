/-
  StPure StCheck StNewer
-/
import Derived.Test.YtieklnlbljejdaaGreatDoorG00
import Derived.WalkKit
import Derived.Deep.DeepCutAuto
namespace Go.Proofs.YtieklnlbljejdaaGreatDoor
namespace St
abbrev Ed := Int × Int
def edgF (own : Int) : Int → List Ed → Nat
 | _, [] => 0
 | ah, e :: r => if e.1 < 1 ∨ 6 < e.1 ∨ e.2 < 1 ∨ 20 < e.2 then 1 else if e.1 = own ∨ e.1 ≤ ah then 3 else edgF own e.1 r
def stF (own seq : Int) (es : List Ed) : Nat := if own < 1 ∨ 6 < own ∨ seq < 1 ∨ 1000000 < seq then 1 else if 6 < es.length then 2 else edgF own 0 es
theorem stF_zero {own seq : Int} {es : List Ed} (h : stF own seq es = 0) : (1 ≤ own ∧ own ≤ 6) ∧ (1 ≤ seq ∧ seq ≤ 1000000) ∧ es.length ≤ 6 ∧ edgF own 0 es = 0 := by
 unfold stF at h
 split at h
 · simp at h
 · split at h
   · simp at h
   · exact ⟨by omega, by omega, by omega, h⟩
theorem edgF_all (own : Int) : ∀ (es : List Ed) (ah : Int), edgF own ah es = 0 → ∀ e ∈ es, (1 ≤ e.1 ∧ e.1 ≤ 6) ∧ (1 ≤ e.2 ∧ e.2 ≤ 20)
 | [], _, _, e, he => by simp at he
 | x :: r, ah, h, e, he => by
   unfold edgF at h
   split at h
   · simp at h
   · split at h
     · simp at h
     · rcases List.mem_cons.1 he with rfl | he
       · omega
       · exact edgF_all own r _ h e he
def u8 (x : Int) : UInt8 := UInt8.ofNat x.toNat
theorem u8_nat (x : Int) (h0 : 0 ≤ x) (h1 : x ≤ 255) : ((u8 x).toNat : Int) = x := by
 unfold u8
 rw [UInt8.toNat_ofNat_of_lt' (by show x.toNat < 256; omega)]
 omega
def edB (es : List Ed) : List UInt8 := es.flatMap fun o => [u8 o.1, u8 o.2]
theorem edB_snoc (os : List Ed) (o : Ed) : edB (os ++ [o]) = edB os ++ [u8 o.1, u8 o.2] := by simp [edB]
theorem edB_length (os : List Ed) : (edB os).length = 2 * os.length := by
 induction os with
 | nil => rfl
 | cons o r ih => simp only [edB, List.flatMap_cons, List.length_append, List.length_cons, List.length_nil] at ih ⊢; omega
def stB (own seq : Int) (es : List Ed) : List UInt8 := u8 own :: u8 (seq % 256) :: u8 (seq / 256 % 256) :: u8 (seq / 65536) :: edB es
def pairs : List UInt8 → List Ed
 | k :: n :: r => ((k.toNat : Int), (n.toNat : Int)) :: pairs r
 | _ => []
theorem pairs_length : ∀ l : List UInt8, (pairs l).length = l.length / 2
 | [] => rfl
 | [_] => by simp [pairs]
 | a :: b :: r => by
   have ih := pairs_length r
   simp only [pairs, List.length_cons, ih]
   omega
def seqOf (l : List UInt8) : Int := ((l.getD 1 0).toNat : Int) + 256 * ((l.getD 2 0).toNat : Int) + 65536 * ((l.getD 3 0).toNat : Int)
def parseR (l : List UInt8) : Int × Int × List Ed × Nat :=
 if l.length < 4 ∨ l.length % 2 = 1 then (0, 0, [], 4)
 else if stF ((l.getD 0 0).toNat : Int) (seqOf l) (pairs (l.drop 4)) = 0 then (((l.getD 0 0).toNat : Int), seqOf l, pairs (l.drop 4), 0)
 else (0, 0, [], 4)
theorem parseR_long (l : List UInt8) (h : 16 < l.length) : parseR l = (0, 0, [], 4) := by
 unfold parseR
 split
 · rfl
 · rename_i h1
   have hl : 6 < (pairs (l.drop 4)).length := by rw [pairs_length]; simp; omega
   split
   · rename_i h2
     have := (stF_zero h2).2.2.1
     omega
   · rfl
def cmpI (a b : Int) : Int := if a < b then -1 else if b < a then 1 else 0
def cmpE (a b : Ed) : Int := if cmpI a.1 b.1 ≠ 0 then cmpI a.1 b.1 else cmpI a.2 b.2
def newE : List Ed → List Ed → Int
 | [], [] => 0
 | [], _ :: _ => -1
 | _ :: _, [] => 1
 | a :: r, b :: q => if cmpE a b ≠ 0 then cmpE a b else newE r q
def newS (s1 : Int) (e1 : List Ed) (s2 : Int) (e2 : List Ed) : Int := if cmpI s1 s2 ≠ 0 then cmpI s1 s2 else newE e1 e2
theorem cmpI_three (a b : Int) : cmpI a b = -1 ∨ cmpI a b = 0 ∨ cmpI a b = 1 := by unfold cmpI; split <;> (try split) <;> simp
theorem cmpE_cases (a b : Ed) : (cmpE a b = 1 ∧ (b.1 < a.1 ∨ b.1 = a.1 ∧ b.2 < a.2)) ∨ (cmpE a b = -1 ∧ (a.1 < b.1 ∨ a.1 = b.1 ∧ a.2 < b.2)) ∨ (cmpE a b = 0 ∧ a = b) := by
 obtain ⟨a1, a2⟩ := a
 obtain ⟨b1, b2⟩ := b
 simp only [cmpE, cmpI, Prod.mk.injEq]
 repeat' split
 all_goals omega
theorem newE_three : ∀ a b : List Ed, newE a b = -1 ∨ newE a b = 0 ∨ newE a b = 1
 | [], [] => by simp [newE]
 | [], _ :: _ => by simp [newE]
 | _ :: _, [] => by simp [newE]
 | a :: r, b :: q => by
   unfold newE
   split
   · rcases cmpE_cases a b with h | h | h <;> simp [h.1]
   · exact newE_three r q
theorem newS_three (s1 s2 : Int) (e1 e2 : List Ed) : newS s1 e1 s2 e2 = -1 ∨ newS s1 e1 s2 e2 = 0 ∨ newS s1 e1 s2 e2 = 1 := by
 unfold newS
 split
 · rcases cmpI_three s1 s2 with h | h | h <;> simp [h]
 · exact newE_three e1 e2
end St
end Go.Proofs.YtieklnlbljejdaaGreatDoor

namespace Go.Proofs.YtieklnlbljejdaaGreatDoor
open Go.RowKit St
theorem infoEdge : (Tryz.prog.info? 123).map (fun i => (i.zero, i.size, i.bytes)) = some (some (.agg #[.int .i64 0, .int .i64 0]), 2, 16) := by kernel_rfl
theorem zeroState (w : World) : (zeroValue 40).run Tryz.prog w = .ok (.agg #[.int .i64 0, .int .i64 0, .slice none 0 0]) w := by kernel_rfl
def isR (n : Int) : Bool := decide (1 ≤ n) && decide (n ≤ 6)
set_option maxRecDepth 100000 in
theorem isRouter_any (n : Int) (w : World) : Calls Tryz.prog 167 #[.int .i64 n] w fun e w' => e = .returned (.bool (isR n)) ∧ w = w' := by
 by_cases h0 : 1 ≤ n
 · by_cases h1 : n ≤ 6
   · have hb : isR n = true := by simp [isR, h0, h1]
     rw [hb]
     clear hb
     go_enter Tryz.func167, Tryz.ntmps167
     go_wp2
     go_ret
     exact ⟨by first | rfl | (simp; omega), rfl⟩
   · have hb : isR n = false := by simp [isR, h1]
     rw [hb]
     clear hb
     go_enter Tryz.func167, Tryz.ntmps167
     go_wp2
     go_ret
     exact ⟨by first | rfl | (simp; omega), rfl⟩
 · have hb : isR n = false := by simp [isR, h0]
   rw [hb]
   clear hb
   go_enter Tryz.func167, Tryz.ntmps167
   go_wp2
   go_ret
   exact ⟨by first | rfl | (simp; omega), rfl⟩
theorem isR_true (n : Int) (h0 : ¬ n < 1) (h1 : ¬ 6 < n) : isR n = true := by simp [isR]; omega
theorem isR_false (n : Int) (h : n < 1 ∨ 6 < n) : isR n = false := by simp [isR]; omega
set_option maxRecDepth 100000 in
set_option maxHeartbeats 4000000 in
theorem checkEdges_any (own : Int) (a : Option Addr) (n cap : Nat) (os : List Opt) (w : World) (hn : n ≤ 1000000) (ho : OptR w a n os) :
 Calls Tryz.prog 168 #[.int .i64 own, .slice a n cap] w fun e w' => e = .returned (errV (edgF own 0 os)) ∧ Below w.heap.size w w' := by
 have e0 : errV 0 = .nilIface := rfl
 have e1 : errV 1 = .iface 128 (.int .i64 1) := rfl
 have e3 : errV 3 = .iface 128 (.int .i64 3) := rfl
 have H0 : Hid _ := e0
 have H1 : Hid _ := e1
 have H3 : Hid _ := e3
 clear e0 e1 e3
 go_enter Tryz.func168, Tryz.ntmps168
 go_wp2_with (fail)
 go_loopw [5, 10] (fun ah i wr => ∃ (k : Nat) (h : Int), k ≤ n ∧ ah = .int .i64 h ∧ i = .int .i64 k ∧ edgF own 0 os = edgF own h (os.drop k) ∧ Below w.heap.size w wr) (fun _ i _ => n - (intOf i).toNat)
 case atStart => exact ⟨0, 0, Nat.zero_le _, rfl, rfl, rfl, Below.refl _ _⟩
 case round =>
  obtain ⟨k, h, hk, rfl, rfl, hF0, hbel⟩ := hrel
  have HF : Hid _ := hF0
  clear hF0
  by_cases hlt : k < n
  · have hor := ho.below hbel
    rcases hor.2 with h0 | ⟨b, off, rfl, hc⟩
    · omega
    have hlo : k < os.length := by rw [ho.1]; exact hlt
    obtain ⟨c1, c2⟩ := hc k hlo
    have HD : Hid (os.drop k = os[k] :: os.drop (k + 1)) := List.drop_eq_getElem_cons hlo
    generalize os[k] = o at c1 c2 HD
    clear hc hor
    have hlt' : (k : Int) < (n : Int) := by omega
    have hb1 := hbel.alloc hbel.size (.cells #[.int .i64 o.1, .int .i64 o.2] 123)
    have hr := isRouter_any o.1 (wr.alloc (.cells #[.int .i64 o.1, .int .i64 o.2] 123))
    have one : (o.1 < 1 ∨ 6 < o.1 ∨ o.2 < 1 ∨ 20 < o.2) → Hid (edgF own 0 os = 1) := fun hh => by
     show _ = _
     rw [HF.out, HD.out, edgF, if_pos hh]
    by_cases r1 : o.1 < 1 ∨ 6 < o.1
    · have HZ := one (by omega)
      rw [isR_false o.1 r1] at hr
      clear one
      go_wp2_with (fail)
      refine hr.mono ?_
      rintro e w1 ⟨rfl, rfl⟩
      go_wp2_with (fail)
      rw [HZ.out, H1.out]
      go_ret
      exact ⟨rfl, hb1⟩
    rw [isR_true o.1 (by omega) (by omega)] at hr
    by_cases r2 : o.2 < 1
    · have HZ := one (by omega)
      clear one
      go_wp2_with (fail)
      refine hr.mono ?_
      rintro e w1 ⟨rfl, rfl⟩
      go_wp2_with (fail)
      rw [HZ.out, H1.out]
      go_ret
      exact ⟨rfl, hb1⟩
    by_cases r3 : 20 < o.2
    · have HZ := one (by omega)
      clear one
      go_wp2_with (fail)
      refine hr.mono ?_
      rintro e w1 ⟨rfl, rfl⟩
      go_wp2_with (fail)
      rw [HZ.out, H1.out]
      go_ret
      exact ⟨rfl, hb1⟩
    have three : (o.1 = own ∨ o.1 ≤ h) → Hid (edgF own 0 os = 3) := fun hh => by
     show _ = _
     rw [HF.out, HD.out, edgF, if_neg (by omega), if_pos hh]
    clear one
    cases r4 : (o.1 == own)
    · by_cases r5 : o.1 ≤ h
      · have HZ := three (.inr r5)
        clear three
        go_wp2_with (fail)
        refine hr.mono ?_
        rintro e w1 ⟨rfl, rfl⟩
        go_wp2_with (fail)
        rw [HZ.out, H3.out]
        go_ret
        exact ⟨rfl, hb1⟩
      · have HN : Hid (edgF own 0 os = edgF own o.1 (os.drop (k + 1))) := by
         show _ = _
         have r4' : ¬ o.1 = own := by simpa using r4
         rw [HF.out, HD.out, edgF, if_neg (by omega), if_neg (by omega)]
        clear three
        go_wp2_with (fail)
        refine hr.mono ?_
        rintro e w1 ⟨rfl, rfl⟩
        go_wp2_with (fail)
        go_roundw
        case rel => exact ⟨k + 1, _, by omega, rfl, by go_num, HN.out, hb1⟩
        case measure => simp [intOf]; omega
    · have HZ := three (.inl (by simpa using r4))
      clear three
      go_wp2_with (fail)
      refine hr.mono ?_
      rintro e w1 ⟨rfl, rfl⟩
      go_wp2_with (fail)
      rw [HZ.out, H3.out]
      go_ret
      exact ⟨rfl, hb1⟩
  · have HZ : Hid (edgF own 0 os = 0) := by
     show _ = _
     rw [HF.out, List.drop_eq_nil_of_le (by rw [ho.1]; omega), edgF]
    go_wp2_with (fail)
    rw [HZ.out, H0.out]
    go_ret
    exact ⟨rfl, hbel⟩
set_option maxRecDepth 100000 in
set_option maxHeartbeats 4000000 in
theorem scheck_any (own seq : Int) (a : Option Addr) (n cap : Nat) (os : List Opt) (w : World) (hn : n ≤ 1000000) (ho : OptR w a n os) :
 Calls Tryz.prog 117 #[.agg #[.int .i64 own, .int .i64 seq, .slice a n cap]] w fun e w' => e = .returned (errV (stF own seq os)) ∧ Below w.heap.size w w' := by
 have hw1 := below_alloc w (.cells #[.int .i64 own, .int .i64 seq, .slice a n cap] 40)
 have H1 : Hid (errV 1 = .iface 128 (.int .i64 1)) := rfl
 have H2 : Hid (errV 2 = .iface 128 (.int .i64 2)) := rfl
 have hl := ho.1
 have hr := isRouter_any own (w.alloc (.cells #[.int .i64 own, .int .i64 seq, .slice a n cap] 40))
 have one : (own < 1 ∨ 6 < own ∨ seq < 1 ∨ 1000000 < seq) → Hid (stF own seq os = 1) := fun hh => by show _ = _; rw [stF, if_pos hh]
 by_cases r1 : own < 1 ∨ 6 < own
 · have HZ := one (by omega)
   rw [isR_false own r1] at hr
   clear one
   go_enter Tryz.func117, Tryz.ntmps117
   go_wp2_with (fail)
   refine hr.mono ?_
   rintro e w1 ⟨rfl, rfl⟩
   go_wp2_with (fail)
   rw [HZ.out, H1.out]
   go_ret
   exact ⟨rfl, hw1⟩
 rw [isR_true own (by omega) (by omega)] at hr
 by_cases r2 : seq < 1
 · have HZ := one (by omega)
   clear one
   go_enter Tryz.func117, Tryz.ntmps117
   go_wp2_with (fail)
   refine hr.mono ?_
   rintro e w1 ⟨rfl, rfl⟩
   go_wp2_with (fail)
   rw [HZ.out, H1.out]
   go_ret
   exact ⟨rfl, hw1⟩
 by_cases r3 : 1000000 < seq
 · have HZ := one (by omega)
   clear one
   go_enter Tryz.func117, Tryz.ntmps117
   go_wp2_with (fail)
   refine hr.mono ?_
   rintro e w1 ⟨rfl, rfl⟩
   go_wp2_with (fail)
   rw [HZ.out, H1.out]
   go_ret
   exact ⟨rfl, hw1⟩
 clear one
 by_cases r4 : (6 : Int) < (n : Int)
 · have HZ : Hid (stF own seq os = 2) := by show _ = _; rw [stF, if_neg (by omega), if_pos (by omega)]
   go_enter Tryz.func117, Tryz.ntmps117
   go_wp2_with (fail)
   refine hr.mono ?_
   rintro e w1 ⟨rfl, rfl⟩
   go_wp2_with (fail)
   rw [HZ.out, H2.out]
   go_ret
   exact ⟨rfl, hw1⟩
 · have HZ : Hid (stF own seq os = edgF own 0 os) := by show _ = _; rw [stF, if_neg (by omega), if_neg (by omega)]
   have hc := checkEdges_any own a n cap os _ hn (ho.below hw1)
   go_enter Tryz.func117, Tryz.ntmps117
   go_wp2_with (fail)
   refine hr.mono ?_
   rintro e w1 ⟨rfl, rfl⟩
   go_wp2_with (fail)
   refine hc.mono ?_
   rintro e w2 ⟨rfl, k2⟩
   go_wp2_with (fail)
   rw [HZ.out]
   go_ret
   exact ⟨rfl, below_chain hw1 k2⟩
theorem box3 {w w1 : World} {x y z : Value} {t : TypeId} (hb : Below (w.alloc (.cells #[x, y, z] t)).heap.size (w.alloc (.cells #[x, y, z] t)) w1) :
 w1.cell? ⟨w.heap.size, 0, none⟩ = some x ∧ w1.cell? ⟨w.heap.size, 1, none⟩ = some y ∧ w1.cell? ⟨w.heap.size, 2, none⟩ = some z ∧ w.heap.size < w1.heap.size := by
 have hz : w.heap.size < (w.alloc (.cells #[x, y, z] t)).heap.size := by simp
 have hA := fun j => World.cell?_alloc_mark w #[x, y, z] t (0, 0) j
 exact ⟨(hb.cell (p := ⟨w.heap.size, 0, none⟩) hz).trans (hA 0), (hb.cell (p := ⟨w.heap.size, 1, none⟩) hz).trans (hA 1), (hb.cell (p := ⟨w.heap.size, 2, none⟩) hz).trans (hA 2), Nat.lt_of_lt_of_le hz hb.size⟩
def ahead (os : List Opt) (k : Nat) : Int := if k = 0 then 0 else (os.getD (k - 1) (0, 0)).1
end Go.Proofs.YtieklnlbljejdaaGreatDoor

namespace Go.Proofs.YtieklnlbljejdaaGreatDoor
open Go.RowKit St
set_option maxRecDepth 100000 in
theorem nan_any (a : Int) (w : World) : Calls Tryz.prog 222 #[.int .i64 a] w fun e w' => e = .returned (.bool false) ∧ w = w' := by
 have h : (a != a) = false := by simp
 go_enter Tryz.func222, Tryz.ntmps222
 go_wp2
 go_ret
 exact ⟨rfl, rfl⟩
set_option maxRecDepth 100000 in
theorem compare_any (a b : Int) (w : World) : Calls Tryz.prog 204 #[.int .i64 a, .int .i64 b] w fun e w' => e = .returned (.int .i64 (cmpI a b)) ∧ w = w' := by
 by_cases h1 : a < b
 · have hv : cmpI a b = -1 := by simp [cmpI, h1]
   rw [hv]
   clear hv
   go_enter Tryz.func204, Tryz.ntmps204
   go_wp2_with (go_at_call 222; refine (nan_any _ _).mono ?_; rintro e w1 ⟨rfl, rfl⟩)
   go_ret
   exact ⟨rfl, rfl⟩
 · by_cases h2 : b < a
   · have hv : cmpI a b = 1 := by simp [cmpI, h1, h2]
     rw [hv]
     clear hv
     go_enter Tryz.func204, Tryz.ntmps204
     go_wp2_with (go_at_call 222; refine (nan_any _ _).mono ?_; rintro e w1 ⟨rfl, rfl⟩)
     go_ret
     exact ⟨rfl, rfl⟩
   · have hv : cmpI a b = 0 := by simp [cmpI, h1, h2]
     rw [hv]
     clear hv
     go_enter Tryz.func204, Tryz.ntmps204
     go_wp2_with (go_at_call 222; refine (nan_any _ _).mono ?_; rintro e w1 ⟨rfl, rfl⟩)
     go_ret
     exact ⟨rfl, rfl⟩
set_option maxRecDepth 100000 in
theorem or_any (g cap : Nat) (x y : Int) (w : World) (h0 : w.cell? ⟨g, 0, none⟩ = some (.int .i64 x)) (h1 : w.cell? ⟨g, 1, none⟩ = some (.int .i64 y)) :
 Calls Tryz.prog 215 #[.slice (some ⟨g, 0, none⟩) 2 cap] w fun e w' => e = .returned (.int .i64 (if x ≠ 0 then x else y)) ∧ w = w' := by
 have hg : g < w.heap.size := World.block_lt_of_cell? w _ h0
 cases q : (x != 0)
 · have hx : x = 0 := by simpa using q
   cases q2 : (y != 0)
   · have hy : y = 0 := by simpa using q2
     have hv : (if x ≠ 0 then x else y) = 0 := by simp [hx, hy]
     rw [hv]
     clear hv hx hy
     go_enter Tryz.func215, Tryz.ntmps215
     go_wp2_with (fail)
     refine wp_loop_rounds 3 ?_
     rw [rounds_succ]
     go_wp2_with (fail)
     rw [rounds_succ]
     go_wp2_with (fail)
     rw [rounds_succ]
     go_wp2_with (fail)
     go_ret
     exact ⟨rfl, rfl⟩
   · have hv : (if x ≠ 0 then x else y) = y := by simp [hx]
     rw [hv]
     clear hv hx
     go_enter Tryz.func215, Tryz.ntmps215
     go_wp2_with (fail)
     refine wp_loop_rounds 3 ?_
     rw [rounds_succ]
     go_wp2_with (fail)
     rw [rounds_succ]
     go_wp2_with (fail)
     go_ret
     exact ⟨rfl, rfl⟩
 · have hx : ¬ x = 0 := by simpa using q
   have hv : (if x ≠ 0 then x else y) = x := by simp [hx]
   rw [hv]
   clear hv hx
   go_enter Tryz.func215, Tryz.ntmps215
   go_wp2_with (fail)
   refine wp_loop_rounds 3 ?_
   rw [rounds_succ]
   go_wp2_with (fail)
   go_ret
   exact ⟨rfl, rfl⟩
theorem two_new (W : World) (x y : Value) (t : TypeId) (g : Nat) (hg : W.heap.size = g) : (W.alloc (.cells #[x, y] t)).drew.cell? ⟨g, 0, none⟩ = some x ∧ (W.alloc (.cells #[x, y] t)).drew.cell? ⟨g, 1, none⟩ = some y := by
 subst hg
 exact ⟨World.cell?_alloc_mark W #[x, y] t (0, 0) 0, World.cell?_alloc_mark W #[x, y] t (0, 0) 1⟩
set_option maxRecDepth 100000 in
set_option maxHeartbeats 2000000 in
theorem edge_any (a b c d : Int) (w : World) : Calls Tryz.prog 214 #[.agg #[.int .i64 a, .int .i64 b], .agg #[.int .i64 c, .int .i64 d]] w fun e w' => e = .returned (.int .i64 (cmpE (a, b) (c, d))) ∧ Below w.heap.size w w' := by
 have hw0 : Below w.heap.size w ((w.alloc (.cells #[.int .i64 a, .int .i64 b] 123)).alloc (.cells #[.int .i64 c, .int .i64 d] 123)) := (below_alloc _ _).alloc (by simp) _
 obtain ⟨p, hp⟩ : ∃ p, cmpI a c = p := ⟨_, rfl⟩
 obtain ⟨q, hq⟩ : ∃ q, cmpI b d = q := ⟨_, rfl⟩
 have hv : cmpE (a, b) (c, d) = if p ≠ 0 then p else q := by simp [cmpE, hp, hq]
 have h3 := fun (g cap : Nat) (W : World) h0 h1 => or_any g cap p q W h0 h1
 rw [hv]
 generalize (if p ≠ 0 then p else q) = r at h3
 have H3 : Hid _ := h3
 clear h3
 have h1 := fun W => compare_any a c W
 have h2 := fun W => compare_any b d W
 rw [hp] at h1
 rw [hq] at h2
 clear hv hp hq
 go_enter Tryz.func214, Tryz.ntmps214
 go_wp2_with (fail)
 obtain ⟨W0, hW0⟩ : ∃ W0, (w.alloc (.cells #[.int .i64 a, .int .i64 b] 123)).alloc (.cells #[.int .i64 c, .int .i64 d] 123) = W0 := ⟨_, rfl⟩
 have hs : W0.heap.size = w.heap.size + 1 + 1 := by rw [← hW0]; simp
 have x0 : W0.cell? ⟨w.heap.size, 0, none⟩ = some (.int .i64 a) := by rw [← hW0]; exact ((below_alloc _ _).cell (p := ⟨w.heap.size, 0, none⟩) (by simp)).trans (World.cell?_alloc_mark w #[.int .i64 a, .int .i64 b] 123 (0, 0) 0)
 have x1 : W0.cell? ⟨w.heap.size, 1, none⟩ = some (.int .i64 b) := by rw [← hW0]; exact ((below_alloc _ _).cell (p := ⟨w.heap.size, 1, none⟩) (by simp)).trans (World.cell?_alloc_mark w #[.int .i64 a, .int .i64 b] 123 (0, 0) 1)
 have y0 : W0.cell? ⟨w.heap.size + 1, 0, none⟩ = some (.int .i64 c) := by rw [← hW0]; simp
 have y1 : W0.cell? ⟨w.heap.size + 1, 1, none⟩ = some (.int .i64 d) := by rw [← hW0]; simp
 have xl : w.heap.size < W0.heap.size := World.block_lt_of_cell? W0 _ x0
 have yl : w.heap.size + 1 < W0.heap.size := World.block_lt_of_cell? W0 _ y0
 rw [hW0] at hw0 ⊢
 have HS : Hid _ := hs
 clear hW0 hs
 obtain ⟨X, hX⟩ : ∃ X, w.heap.size = X := ⟨_, rfl⟩
 have HX : Hid _ := hX
 rw [hX] at x0 x1 y0 y1 xl yl ⊢
 clear hX
 have F0 : W0.drew.cell? ⟨X, 0, none⟩ = some (.int .i64 a) ∧ W0.drew.cell? ⟨X, 1, none⟩ = some (.int .i64 b) ∧ W0.drew.cell? ⟨X + 1, 0, none⟩ = some (.int .i64 c) ∧ W0.drew.cell? ⟨X + 1, 1, none⟩ = some (.int .i64 d) := ⟨x0, x1, y0, y1⟩
 go_region_held3 (fun x => x.cell? ⟨X, 0, none⟩ = some (.int .i64 a) ∧ x.cell? ⟨X, 1, none⟩ = some (.int .i64 b) ∧ x.cell? ⟨X + 1, 0, none⟩ = some (.int .i64 c) ∧ x.cell? ⟨X + 1, 1, none⟩ = some (.int .i64 d))
  (first | assumption | exact F0 | go_keep)
  (first
    | (go_at_call_of 204 a; refine (h1 _).mono ?_; rintro e w1 ⟨rfl, rfl⟩)
    | (go_at_call_of 204 b; refine (h2 _).mono ?_; rintro e w1 ⟨rfl, rfl⟩)
    | (go_at_call 215; refine (H3.out _ _ _ (two_new _ _ _ _ _ (by rfl)).1 (two_new _ _ _ _ _ (by rfl)).2).mono ?_; rintro e w1 ⟨rfl, rfl⟩))
 all_goals
  go_wp2_with (fail)
  go_ret
  exact ⟨rfl, below_drewN (hw0.alloc hw0.size _) 1⟩
set_option maxRecDepth 100000 in
set_option maxHeartbeats 2000000 in
theorem compareFunc_any (a b : Option Addr) (n m ca cb : Nat) (es fs : List Opt) (w : World) (ha : OptR w a n es) (hb : OptR w b m fs) (hn : n ≤ 1000000) :
 Calls Tryz.prog 213 #[.slice a n ca, .slice b m cb, .func (.func 214) #[] #[]] w fun e w' => e = .returned (.int .i64 (newE es fs)) ∧ Below w.heap.size w w' := by
 have hla := ha.1
 have hlb := hb.1
 go_enter Tryz.func213, Tryz.ntmps213
 go_wp2_with (fail)
 go_loopw [13] (fun i wr => ∃ k : Nat, k ≤ n ∧ k ≤ m ∧ i = .int .i64 k ∧ newE es fs = newE (es.drop k) (fs.drop k) ∧ Below w.heap.size w wr) (fun i _ => n - (intOf i).toNat)
 case atStart => exact ⟨0, Nat.zero_le _, Nat.zero_le _, rfl, rfl, Below.refl _ _⟩
 case round =>
  obtain ⟨k, hk, hkm, rfl, hF0, hbel⟩ := hrel
  have HF : Hid _ := hF0
  clear hF0
  by_cases hlt : k < n
  · have hlt' : (k : Int) < (n : Int) := by omega
    rcases (ha.below hbel).2 with h0 | ⟨b1, o1, rfl, hA⟩
    · omega
    obtain ⟨c1, c2⟩ := hA k (by omega)
    have H1 : Hid (es.drop k = es[k]'(by omega) :: es.drop (k + 1)) := List.drop_eq_getElem_cons (by omega)
    generalize es[k]'(by omega) = o at c1 c2 H1
    clear hA
    have hb1 := hbel.alloc hbel.size (.cells #[.int .i64 o.1, .int .i64 o.2] 123)
    by_cases hlm : k < m
    · have hlm' : ¬ (m : Int) ≤ (k : Int) := by omega
      have hkm2 : (k : Int) < (m : Int) := by omega
      rcases (hb.below hb1).2 with h0 | ⟨b2, o2, rfl, hB⟩
      · omega
      obtain ⟨c3, c4⟩ := hB k (by omega)
      have H2 : Hid (fs.drop k = fs[k]'(by omega) :: fs.drop (k + 1)) := List.drop_eq_getElem_cons (by omega)
      generalize fs[k]'(by omega) = q at c3 c4 H2
      clear hB
      have hb2 := hb1.alloc hb1.size (.cells #[.int .i64 q.1, .int .i64 q.2] 123)
      have hc := fun W => edge_any o.1 o.2 q.1 q.2 W
      have HS : Hid (newE es fs = if cmpE (o.1, o.2) (q.1, q.2) ≠ 0 then cmpE (o.1, o.2) (q.1, q.2) else newE (es.drop (k + 1)) (fs.drop (k + 1))) := by
       show _ = _
       rw [HF.out, H1.out, H2.out, newE]
      generalize cmpE (o.1, o.2) (q.1, q.2) = r at hc HS
      cases hr : (r != 0)
      · have HS2 : Hid (newE es fs = newE (es.drop (k + 1)) (fs.drop (k + 1))) := by
         show _ = _
         have hr0 : r = 0 := by simpa using hr
         rw [HS.out, hr0]
         simp
        go_wp2_with (fail)
        refine (hc _).mono ?_
        rintro e w1 ⟨rfl, k1⟩
        have hb3 := below_chain hb2 k1
        clear hc
        go_wp2_with (fail)
        go_roundw
        case rel => exact ⟨k + 1, by omega, by omega, by go_num, HS2.out, hb3⟩
        case measure => simp [intOf]; omega
      · have HS2 : Hid (newE es fs = r) := by
         show _ = _
         have hr0 : ¬ r = 0 := by simpa using hr
         rw [HS.out, if_pos hr0]
        go_wp2_with (fail)
        refine (hc _).mono ?_
        rintro e w1 ⟨rfl, k1⟩
        have hb3 := below_chain hb2 k1
        clear hc
        go_wp2_with (fail)
        rw [HS2.out]
        go_ret
        exact ⟨rfl, hb3⟩
    · have hlm' : (m : Int) ≤ (k : Int) := by omega
      have HS : Hid (newE es fs = 1) := by
       show _ = _
       rw [HF.out, H1.out, List.drop_eq_nil_of_le (show fs.length ≤ k by omega), newE]
      go_wp2_with (fail)
      rw [HS.out]
      go_ret
      exact ⟨rfl, hb1⟩
  · have hge : ¬ (k : Int) < (n : Int) := by omega
    have H1 : es.drop k = [] := List.drop_eq_nil_of_le (by omega)
    by_cases hnm : (n : Int) < (m : Int)
    · have HS : Hid (newE es fs = -1) := by
       show _ = _
       rw [HF.out, H1, List.drop_eq_getElem_cons (show k < fs.length by omega), newE]
      clear H1
      go_wp2_with (fail)
      rw [HS.out]
      go_ret
      exact ⟨rfl, hbel⟩
    · have HS : Hid (newE es fs = 0) := by
       show _ = _
       rw [HF.out, H1, List.drop_eq_nil_of_le (show fs.length ≤ k by omega), newE]
      clear H1
      go_wp2_with (fail)
      rw [HS.out]
      go_ret
      exact ⟨rfl, hbel⟩
set_option maxRecDepth 100000 in
set_option maxHeartbeats 2000000 in
theorem newer_any (o1 s1 o2 s2 : Int) (a b : Option Addr) (n m ca cb : Nat) (es fs : List Opt) (w : World) (ha : OptR w a n es) (hb : OptR w b m fs) (hn : n ≤ 1000000) :
 Calls Tryz.prog 189 #[.agg #[.int .i64 o1, .int .i64 s1, .slice a n ca], .agg #[.int .i64 o2, .int .i64 s2, .slice b m cb]] w fun e w' => e = .returned (.int .i64 (newS s1 es s2 fs)) ∧ Below w.heap.size w w' := by
 have hw0 : Below w.heap.size w ((w.alloc (.cells #[.int .i64 o1, .int .i64 s1, .slice a n ca] 40)).alloc (.cells #[.int .i64 o2, .int .i64 s2, .slice b m cb] 40)) := (below_alloc _ _).alloc (by simp) _
 have h1 := compare_any s1 s2 ((w.alloc (.cells #[.int .i64 o1, .int .i64 s1, .slice a n ca] 40)).alloc (.cells #[.int .i64 o2, .int .i64 s2, .slice b m cb] 40))
 have h2 := compareFunc_any a b n m ca cb es fs _ (ha.below hw0) (hb.below hw0) hn
 have hv : newS s1 es s2 fs = if cmpI s1 s2 ≠ 0 then cmpI s1 s2 else newE es fs := rfl
 rw [hv]
 clear hv
 generalize newE es fs = q at h2
 generalize cmpI s1 s2 = r at h1
 cases hr : (r != 0)
 · have hr0 : (if r ≠ 0 then r else q) = q := by simp at hr; simp [hr]
   rw [hr0]
   clear hr0
   go_enter Tryz.func189, Tryz.ntmps189
   go_wp2_with (fail)
   refine h1.mono ?_
   rintro e w1 ⟨rfl, rfl⟩
   clear h1
   go_wp2_with (fail)
   refine h2.mono ?_
   rintro e w2 ⟨rfl, k2⟩
   clear h2
   go_wp2_with (fail)
   go_ret
   exact ⟨rfl, below_chain hw0 k2⟩
 · have hr0 : (if r ≠ 0 then r else q) = r := by simp at hr; simp [hr]
   rw [hr0]
   clear hr0 h2
   go_enter Tryz.func189, Tryz.ntmps189
   go_wp2_with (fail)
   refine h1.mono ?_
   rintro e w1 ⟨rfl, rfl⟩
   clear h1
   go_wp2_with (fail)
   go_ret
   exact ⟨rfl, hw0⟩
end Go.Proofs.YtieklnlbljejdaaGreatDoor
