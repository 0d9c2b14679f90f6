/-
  One end of a link: Take, Do, Out, Size, where the event comes.
-/
import Derived.Test.YtgfjgenkpfdofaaDoorLinkTake
namespace Go.Proofs.YtgfjgenkpfdofaaDoor
open Go.RowKit

/-- A packet that comes, as it lies in memory; what an end makes of it, where it is taken. -/
structure Comes (w : World) (X : Nat → Prop) (s : LS) (v : Value) (p : PV) : Prop where
  ok : PvOk w X v p
  check : packF p.code p.id p.os = 0
  road : (p.code = 1 ∧ 0 ≤ s.nm ∧ s.nm ≤ 255 ∧ judgeR s.nm p.os = (2, p.os) ∧ (stepI s.st 6).2.2 = 0) ∨ (p.code = 2 ∧ p.id = s.ow ∧ p.os = asksL s.qs s.qm ∧ (stepI s.st 8).2.2 = 0) ∨ (p.code = 5 ∧ (stepI s.st 10).2.2 = 0) ∨ (p.code = 6 ∧ (stepI s.st 11).2.2 = 0)
def ltakeS (s : LS) (p : APkt) : LS := if p.1 = 1 then (comeS s 6).sized p.2.2 else if p.1 = 2 then comeS s 8 else if p.1 = 5 then comeS s 10 else comeS s 11
def ltakeO (s : LS) (p : APkt) : List APkt := if p.1 = 1 then comeO s 6 (2, p.2.1, p.2.2) else if p.1 = 2 then comeO s 8 (0, p.2.1, []) else if p.1 = 5 then comeO s 10 (0, p.2.1, []) else comeO s 11 (0, p.2.1, [])

set_option maxRecDepth 100000 in
set_option maxHeartbeats 8000000 in
theorem take_ok (B : Nat) (X : Nat → Prop) (s : LS) (v : Value) (ps : List PV) (p : PV) (w : World) (hT : TabOk w) (h : Rep w B X s v ps) (hb : Bd s 100) (hn : ps.length ≤ 50) (hp : Comes w X s v p) :
    Calls Tryd.prog 13 #[.pointer (some ⟨B, 0, none⟩), .agg #[.int .i64 p.code, .int .i64 p.id, .slice p.a p.n p.cap]] w fun e w' => e = .returned .nilIface ∧ Went w w' B X (ltakeS s p.abs) v ps (ltakeO s p.abs) := by
  obtain ⟨code, id, a, n, cap, os⟩ := p
  obtain ⟨hok, hck, hroad⟩ := hp
  obtain ⟨ho, hnil, hle, hfew, hfar⟩ := hok
  simp only at hck hroad ho hnil hle hfew
  have hfar' : ∀ k, optOwn a n = some k → ¬ X k ∧ v.ownBlock ≠ some k ∧ k < w.heap.size := hfar
  have hk := below_alloc w (.cells #[.int .i64 code, .int .i64 id, .slice a n cap] 36)
  have hA := fun j => World.cell?_alloc_mark w #[.int .i64 code, .int .i64 id, .slice a n cap] 36 (0, 0) j
  have hC := check_any code id a n cap os _ (by omega) hle (ho.below hk)
  have e0 : errV 0 = .nilIface := rfl
  rw [hck, e0] at hC
  have hz : ∀ w : World, (zeroValue 36).run Tryd.prog w = .ok (.agg #[.int .i64 0, .int .i64 0, .slice none 0 0]) w := fun w => by kernel_rfl
  obtain ⟨Z, hZ⟩ : ∃ Z, w.heap.size = Z := ⟨_, rfl⟩
  have hAZ : ∀ j, (w.alloc (.cells #[.int .i64 code, .int .i64 id, .slice a n cap] 36)).cell? ⟨Z, j, none⟩ = #[.int .i64 code, .int .i64 id, .slice a n cap][j]? := by rw [← hZ]; exact hA
  have hlZ0 : Z < (w.alloc (.cells #[.int .i64 code, .int .i64 id, .slice a n cap] 36)).heap.size := by simp; omega
  have HZ : Hid (w.heap.size = Z) := hZ
  clear hA hZ hck hfar e0
  have main : ∀ (ev : Int), (stepI s.st ev).2.2 = 0 → ∀ W2 : World, Below w.heap.size w W2 → Calls Tryd.prog 21 #[.pointer (some ⟨B, 0, none⟩), .int .i64 ev, .agg #[.int .i64 0, .int .i64 id, .slice none 0 0]] W2 fun e w' => e = .returned .nilIface ∧ Went w w' B X (comeS s ev) v ps (comeO s ev (0, id, [])) := by
    intro ev hf W2 k
    refine (come_ok B X s v ps ⟨0, id, none, 0, 0, []⟩ ev W2 (hT.below k) (h.below k) hb (pv_none _ _ _ _ _) hn hf).mono ?_
    rintro e w' ⟨rfl, hW⟩
    exact ⟨rfl, hW.from (Kept.of_below B v.ownBlock k)⟩
  rcases hroad with ⟨rfl, m1, m2, hj, hf⟩ | ⟨rfl, hid, hos, hf⟩ | ⟨rfl, hf⟩ | ⟨rfl, hf⟩
  · have hS : ltakeS s (PV.abs ⟨1, id, a, n, cap, os⟩) = (comeS s 6).sized os := rfl
    have hO : ltakeO s (PV.abs ⟨1, id, a, n, cap, os⟩) = comeO s 6 (2, id, os) := rfl
    rw [hS, hO]
    have HH : ∀ W2 : World, Below w.heap.size w W2 → Calls Tryd.prog 25 #[.pointer (some ⟨B, 0, none⟩), .agg #[.int .i64 1, .int .i64 id, .slice a n cap]] W2 fun e w' => e = .returned .nilIface ∧ Went w w' B X ((comeS s 6).sized os) v ps (comeO s 6 (2, id, os)) := by
      intro W2 k
      refine (request_ack B X s v ps id a n cap os W2 (hT.below k) (h.below k) hb hn (ho.below k) (fun j hj2 => by obtain ⟨q1, q2, q3⟩ := hfar' j hj2; exact ⟨q1, q2, Nat.lt_of_lt_of_le q3 k.size⟩) hnil (by omega) m1 m2 hj hf).mono ?_
      rintro e w' ⟨rfl, hW⟩
      exact ⟨rfl, hW.from (Kept.of_below B v.ownBlock k)⟩
    clear main hS hO hj hfar' h ho
    go_enter Tryd.func13, Tryd.ntmps13
    go_wp2_with (fail)
    refine hC.mono ?_
    rintro e w1 ⟨rfl, k1⟩
    have d0 := (k1.cell (p := ⟨Z, 0, none⟩) hlZ0).trans (hAZ 0)
    have d1 := (k1.cell (p := ⟨Z, 1, none⟩) hlZ0).trans (hAZ 1)
    have d2 := (k1.cell (p := ⟨Z, 2, none⟩) hlZ0).trans (hAZ 2)
    have d0' : w1.cell? ⟨Z, 0, none⟩ = some (.int .i64 1) := d0
    have d1' : w1.cell? ⟨Z, 1, none⟩ = some (.int .i64 id) := d1
    have d2' : w1.cell? ⟨Z, 2, none⟩ = some (.slice a n cap) := d2
    have hl1 : Z < w1.heap.size := World.block_lt_of_cell? w1 _ d0'
    have HK := HH w1 (below_chain hk k1)
    clear hC d0 d1 d2 hAZ hlZ0 HH
    rw [HZ.out]
    go_wp2_with (fail)
    refine HK.mono ?_
    rintro e w2 ⟨rfl, hW⟩
    clear HK
    go_wp2_with (fail)
    go_ret
    exact ⟨rfl, hW⟩
  · have hS : ltakeS s (PV.abs ⟨2, id, a, n, cap, os⟩) = comeS s 8 := rfl
    have hO : ltakeO s (PV.abs ⟨2, id, a, n, cap, os⟩) = comeO s 8 (0, id, []) := rfl
    rw [hS, hO]
    have HH : ∀ W2 : World, Below w.heap.size w W2 → Calls Tryd.prog 26 #[.pointer (some ⟨B, 0, none⟩), .agg #[.int .i64 2, .int .i64 id, .slice a n cap]] W2 fun e w' => e = .returned .nilIface ∧ Went w w' B X (comeS s 8) v ps (comeO s 8 (0, id, [])) := by
      intro W2 k
      refine (answer_ack B X s v ps id a n cap os W2 (hT.below k) (h.below k) hb hn (ho.below k) (by omega) hid hos hf).mono ?_
      rintro e w' ⟨rfl, hW⟩
      exact ⟨rfl, hW.from (Kept.of_below B v.ownBlock k)⟩
    clear main hS hO hfar' h ho hid hos
    go_enter Tryd.func13, Tryd.ntmps13
    go_wp2_with (fail)
    refine hC.mono ?_
    rintro e w1 ⟨rfl, k1⟩
    have d0 : w1.cell? ⟨Z, 0, none⟩ = some (.int .i64 2) := (k1.cell (p := ⟨Z, 0, none⟩) hlZ0).trans (hAZ 0)
    have d1 : w1.cell? ⟨Z, 1, none⟩ = some (.int .i64 id) := (k1.cell (p := ⟨Z, 1, none⟩) hlZ0).trans (hAZ 1)
    have d2 : w1.cell? ⟨Z, 2, none⟩ = some (.slice a n cap) := (k1.cell (p := ⟨Z, 2, none⟩) hlZ0).trans (hAZ 2)
    have hl1 : Z < w1.heap.size := World.block_lt_of_cell? w1 _ d0
    have HK := HH w1 (below_chain hk k1)
    clear hC hAZ hlZ0 HH
    rw [HZ.out]
    go_wp2_with (fail)
    refine HK.mono ?_
    rintro e w2 ⟨rfl, hW⟩
    clear HK
    go_wp2_with (fail)
    go_ret
    exact ⟨rfl, hW⟩
  · have hS : ltakeS s (PV.abs ⟨5, id, a, n, cap, os⟩) = comeS s 10 := rfl
    have hO : ltakeO s (PV.abs ⟨5, id, a, n, cap, os⟩) = comeO s 10 (0, id, []) := rfl
    rw [hS, hO]
    clear hS hO hfar' h ho
    go_enter Tryd.func13, Tryd.ntmps13
    go_wp2_with (fail)
    refine hC.mono ?_
    rintro e w1 ⟨rfl, k1⟩
    have d0 : w1.cell? ⟨Z, 0, none⟩ = some (.int .i64 5) := (k1.cell (p := ⟨Z, 0, none⟩) hlZ0).trans (hAZ 0)
    have d1 : w1.cell? ⟨Z, 1, none⟩ = some (.int .i64 id) := (k1.cell (p := ⟨Z, 1, none⟩) hlZ0).trans (hAZ 1)
    have hl1 : Z < w1.heap.size := World.block_lt_of_cell? w1 _ d0
    have HK := main 10 hf w1 (below_chain hk k1)
    clear hC hAZ hlZ0 main
    rw [HZ.out]
    go_wp2_with (fail)
    refine HK.mono ?_
    rintro e w2 ⟨rfl, hW⟩
    clear HK
    go_wp2_with (fail)
    go_ret
    exact ⟨rfl, hW⟩
  · have hS : ltakeS s (PV.abs ⟨6, id, a, n, cap, os⟩) = comeS s 11 := rfl
    have hO : ltakeO s (PV.abs ⟨6, id, a, n, cap, os⟩) = comeO s 11 (0, id, []) := rfl
    rw [hS, hO]
    clear hS hO hfar' h ho
    go_enter Tryd.func13, Tryd.ntmps13
    go_wp2_with (fail)
    refine hC.mono ?_
    rintro e w1 ⟨rfl, k1⟩
    have d0 : w1.cell? ⟨Z, 0, none⟩ = some (.int .i64 6) := (k1.cell (p := ⟨Z, 0, none⟩) hlZ0).trans (hAZ 0)
    have d1 : w1.cell? ⟨Z, 1, none⟩ = some (.int .i64 id) := (k1.cell (p := ⟨Z, 1, none⟩) hlZ0).trans (hAZ 1)
    have hl1 : Z < w1.heap.size := World.block_lt_of_cell? w1 _ d0
    have HK := main 11 hf w1 (below_chain hk k1)
    clear hC hAZ hlZ0 main
    rw [HZ.out]
    go_wp2_with (fail)
    refine HK.mono ?_
    rintro e w2 ⟨rfl, hW⟩
    clear HK
    go_wp2_with (fail)
    go_ret
    exact ⟨rfl, hW⟩

set_option maxRecDepth 100000 in
theorem out_rep (B : Nat) (X : Nat → Prop) (s : LS) (v : Value) (ps : List PV) (w : World) (h : Rep w B X s v ps) :
    Calls Tryd.prog 18 #[.pointer (some ⟨B, 0, none⟩)] w fun e w' => e = .returned v ∧ Rep w' B X s (.slice none 0 0) [] ∧ Row w' 3 v ps.length (pvC ps) ∧ (∀ p ∈ ps, PvOk w' X v p) ∧ Kept w w' B none := by
  have hl := h.lk.lt
  have c11 : w.cell? ⟨B, 11, none⟩ = some v := h.lk.cell 11
  have fz : ∀ j, w.frozen? ⟨B, j, none⟩ = false := h.lk.frozen
  have hk : Kept w (w.setCell ⟨B, 11, none⟩ (.slice none 0 0)) B none := kept_set (Kept.refl w B _) 11 _
  have hk2 : Kept w (w.setCell ⟨B, 11, none⟩ (.slice none 0 0)) B v.ownBlock := kept_set (Kept.refl w B _) 11 _
  have HR : Hid (Rep (w.setCell ⟨B, 11, none⟩ (.slice none 0 0)) B X s (.slice none 0 0) []) := ⟨h.lk.set 11 _, Row.nil _ 3, fun g hg => by simp [Value.ownBlock] at hg, h.self, fun k hk4 => Nat.lt_of_lt_of_le (h.old k hk4) hk.size, fun p hp => by simp at hp⟩
  have HO : Hid (Row (w.setCell ⟨B, 11, none⟩ (.slice none 0 0)) 3 v ps.length (pvC ps)) := h.row.keep hk.size (fun k hk3 => Below.heap_setCell _ _ _ k (fun e => h.ne (by rw [hk3]; exact congrArg some e)))
  have HP : Hid (∀ p ∈ ps, PvOk (w.setCell ⟨B, 11, none⟩ (.slice none 0 0)) X v p) := fun p hp => (h.pk p hp).kept h.self hk2 (fun _ e => .inl e)
  clear h hk2
  go_enter Tryd.func18, Tryd.ntmps18
  go_wp2_with (fail)
  go_ret
  exact ⟨rfl, HR.out, HO.out, HP.out, hk⟩
end Go.Proofs.YtgfjgenkpfdofaaDoor
