/-
  Bytes read as a packet, by the program's Parse.
-/
import Derived.Test.YtnafklmigndgeaaBytesWalk
import Derived.Deep.RegionLaw
import Derived.Deep.RegionHeld3
import Derived.Deep.DrawnRows
namespace Go.Proofs.Ytnafklmigndgeaa
open Go.RowKit Plain

theorem info70 : (Try.prog.info? 70).map (fun i => (i.zero, i.size, i.bytes)) = some (some (.agg #[.int .i64 0, .int .i64 0]), 2, 16) := by kernel_rfl
theorem zero47 (w : World) : (zeroValue 47).run Try.prog w = .ok (.agg #[.int .i64 0, .int .i64 0, .slice none 0 0]) w := by kernel_rfl

/-- 'append' as one step of a region that draws its order. -/
theorem step_append_row {P : Program} {ops : Array Oper} {o : Oper} {a : Act} {w : World} {K : Act → World → Prop} {Q : Exit → Act → World → Prop} {E : Prop}
    (hgd : o.guard = none) (s x : Operand) (t : TypeId) (ho : o.op = .call { callee := .builtin .append, args := #[s, x], argTypes := #[t, t] })
    (e : TypeId) (i : TypeInfo) (z : Value) (size bytes : Nat) (ht : P.underlying t = some (.slice e)) (hi : P.info? e = some i) (hz : i.zero = some z)
    (hsize : i.size = size) (hby : i.bytes = bytes) (hzs : z.cells.size = size) (hsz : 0 < size)
    (v : Value) (n : Nat) (xs : List Value) (hs : a.eval s = v) (hown : Row w size v n xs)
    (ad : Addr) (m c : Nat) (news : List Value) (hx : a.eval x = .slice (some ad) m c) (hl : news.length = m * size) (hm : 0 < m) (hnews : ∀ j u, news[j]? = some u → w.cell? (ad.add j) = some u) (h1 : ∀ u ∈ news, u.oneCell' = true)
    (h63 : n + m ≤ maxLen) (hbytes : (n + m) * bytes ≤ 140737488355328)
    (h : ∀ g' cap' w', Row w' size (.slice (some ⟨g', 0, none⟩) (n + m) cap') (n + m) (xs ++ news) → w.grownBy w' v.ownBlock → (v.ownBlock = some g' ∨ w.heap.size ≤ g') → K (a.put o.dst (.slice (some ⟨g', 0, none⟩) (n + m) cap')) w') :
    if Region.wanted o (yielded ops a.tmps) = true then Oper.wp P o a w K Q else E := by
  have hw : Region.wanted o (yielded ops a.tmps) = true := by simp [Region.wanted, hgd]
  rw [if_pos hw]
  obtain ⟨v', w', hr, h2, h3, h4⟩ := run_append_row (P := P) w t o.type e i z size bytes ht hi hz hsize hby hzs hsz v n xs hown ad m c news hl hm hnews h1 h63 hbytes
  unfold Oper.wp execOp
  simp only [ho, resolve, invoke, builtin, Sem.run_bind, Sem.run_pure, Result.andThen_ok, List.map_toArray, List.map_cons, List.map_nil, hs, hx, hr]
  rcases h2.2 with ⟨_, hn⟩ | ⟨g', cap', rfl, _⟩
  · omega
  · refine h g' cap' w' h2 h3 ?_
    rcases h4 with h4 | ⟨k, h4, hk⟩
    · exact .inl h4.symm
    · simp [Value.ownBlock] at h4
      subst h4
      exact .inr hk

theorem cells_two_drew (w : World) (x y : Value) (t : TypeId) : ∀ (j : Nat) (u : Value), [x, y][j]? = some u → (w.alloc (.cells #[x, y] t)).drew.cell? ((⟨w.heap.size, 0, none⟩ : Addr).add j) = some u := fun j u hu => cells_two w x y t j u hu
theorem keep_block {wr x1 : World} {o : Obj} {v : Value} {lo b : Nat} (hnew : ∀ k, v.ownBlock = some k → lo + 2 ≤ k) (hg : (wr.alloc o).drew.grownBy x1 v.ownBlock) (hb : b < lo + 2) (hlt : b < wr.heap.size) : x1.heap[b]? = wr.heap[b]? := by
  rw [hg.block b (by show b < (wr.alloc o).heap.size; simp; omega) (fun e => by have := hnew b e.symm; omega)]
  exact Below.heap_alloc wr o b hlt
theorem keep_cell {wr x1 : World} {o : Obj} {v u : Value} {lo j : Nat} (hnew : ∀ k, v.ownBlock = some k → lo + 2 ≤ k) (hg : (wr.alloc o).drew.grownBy x1 v.ownBlock) (hc : wr.cell? ⟨lo + 1, j, none⟩ = some u) : x1.cell? ⟨lo + 1, j, none⟩ = some u := by
  have hlt : lo + 1 < wr.heap.size := World.block_lt_of_cell? wr _ hc
  rw [World.cell?_of_block (w := wr) (a := ⟨lo + 1, j, none⟩) (keep_block (b := lo + 1) hnew hg (by omega) hlt)]
  exact hc
theorem keep_frozen {wr x1 : World} {o : Obj} {v u : Value} {lo j : Nat} (hnew : ∀ k, v.ownBlock = some k → lo + 2 ≤ k) (hg : (wr.alloc o).drew.grownBy x1 v.ownBlock) (hc : wr.cell? ⟨lo + 1, j, none⟩ = some u) (hf : wr.frozen? ⟨lo + 1, j, none⟩ = false) : x1.frozen? ⟨lo + 1, j, none⟩ = false := by
  have hlt : lo + 1 < wr.heap.size := World.block_lt_of_cell? wr _ hc
  rw [World.frozen?_of_block (w := wr) (a := ⟨lo + 1, j, none⟩) (keep_block (b := lo + 1) hnew hg (by omega) hlt)]
  exact hf

/-- The bytes behind the head, two by two. -/
def pairs : List UInt8 → List Opt
  | k :: n :: r => ((k.toNat : Int), (n.toNat : Int)) :: pairs r
  | _ => []
def optCells (os : List Opt) : List Value := os.flatMap fun o => [.int .i64 o.1, .int .i64 o.2]

theorem optCells_snoc (os : List Opt) (o : Opt) : optCells (os ++ [o]) = optCells os ++ [.int .i64 o.1, .int .i64 o.2] := by simp [optCells]
theorem pdrop_cons (s : ByteArray) (k : Nat) (h : k < s.size) : s.data.toList.drop k = s[k] :: s.data.toList.drop (k + 1) := by
  rw [List.drop_eq_getElem_cons (by simpa using h)]; rfl
theorem optCells_length (os : List Opt) : (optCells os).length = 2 * os.length := by
  induction os with
  | nil => rfl
  | cons o r ih => simp only [optCells, List.flatMap_cons, List.length_append, List.length_cons, List.length_nil] at ih ⊢; omega
theorem optCells_get : ∀ (os : List Opt) (j : Nat) (h : j < os.length), (optCells os)[j * 2]? = some (.int .i64 os[j].1) ∧ (optCells os)[j * 2 + 1]? = some (.int .i64 os[j].2)
  | o :: r, 0, _ => by simp [optCells]
  | o :: r, j + 1, h => by
    have ih := optCells_get r j (by simpa using h)
    have e1 : optCells (o :: r) = .int .i64 o.1 :: .int .i64 o.2 :: optCells r := by simp [optCells]
    rw [e1, show (j + 1) * 2 = j * 2 + 1 + 1 by omega]
    exact ih
theorem Row.opts {w : World} {ao : Option Addr} {k cp : Nat} {os : List Opt} (h : Row w 2 (.slice ao k cp) k (optCells os)) : OptR w ao k os := by
  have hl : os.length = k := by have := h.1; rw [optCells_length] at this; omega
  refine ⟨hl, ?_⟩
  rcases h.2 with ⟨_, hn⟩ | ⟨g, cap, he, _, _, _, hc, _⟩
  · exact .inl hn
  · have e1 : ao = some ⟨g, 0, none⟩ := by simp at he; exact he.1
    refine .inr ⟨g, 0, e1, fun j hj => ?_⟩
    obtain ⟨h1, h2⟩ := optCells_get os j hj
    rw [Nat.zero_add]
    exact ⟨hc _ _ h1, hc _ _ h2⟩
theorem Row.cap_le {w : World} {sz : Nat} {ao : Option Addr} {k cp : Nat} {xs : List Value} (h : Row w sz (.slice ao k cp) k xs) : k ≤ cp := by
  rcases h.2 with ⟨he, hn⟩ | ⟨g, cap, he, _, hnc, _⟩
  · omega
  · simp at he
    omega
/-- The result's cells. -/
theorem parse_result {w wr w1 : World} (hrb : wr.heap[w.heap.size]? = some (.cells #[.int .i64 0, .int .i64 0, .slice none 0 0] 47 (0, 0))) (hb : Below wr.heap.size wr w1) :
    w1.cell? ⟨w.heap.size, 0, none⟩ = some (.int .i64 0) ∧ w1.cell? ⟨w.heap.size, 1, none⟩ = some (.int .i64 0) ∧ w1.cell? ⟨w.heap.size, 2, none⟩ = some (.slice none 0 0) ∧ ∀ j, w1.frozen? ⟨w.heap.size, j, none⟩ = false := by
  have hlt : w.heap.size < wr.heap.size := (Array.getElem?_eq_some_iff.1 hrb).1
  have h1 : w1.heap[w.heap.size]? = some (.cells #[.int .i64 0, .int .i64 0, .slice none 0 0] 47 (0, 0)) := by rw [hb.block _ hlt]; exact hrb
  exact ⟨cell_of_row w1 _ 0 _ 47 (0, 0) h1, cell_of_row w1 _ 1 _ 47 (0, 0) h1, cell_of_row w1 _ 2 _ 47 (0, 0) h1, fun j => frozen_of_row w1 _ j _ 47 h1⟩
/-- What bytes are as a packet: its code, number, options; the error's number. -/
def parseR (l : List UInt8) : Int × Int × List Opt × Nat :=
  if l.length < 3 ∨ (l.length : Int) ≠ (3 : Int) + (2 : Int) * ((l.getD 2 0).toNat : Int) then (0, 0, [], 4)
  else if packF ((l.getD 0 0).toNat : Int) ((l.getD 1 0).toNat : Int) (pairs (l.drop 3)) = 0 then (((l.getD 0 0).toNat : Int), ((l.getD 1 0).toNat : Int), pairs (l.drop 3), 0)
  else (0, 0, [], 4)
/-- What Parse answers. -/
def Parsed (l : List UInt8) (w : World) (e : Ending) (w' : World) : Prop :=
  ∃ (a : Option Addr) (n cap f : Nat) (code id : Int) (os : List Opt), e = .returned (.tuple #[.agg #[.int .i64 code, .int .i64 id, .slice a n cap], errV f]) ∧ OptR w' a n os ∧ n ≤ cap ∧ parseR l = (code, id, os, f) ∧ Below w.heap.size w w'
theorem byte_get (s : ByteArray) (k : Nat) (h : k < s.size) : s.data.toList.getD k 0 = s[k] := by
  have h' : k < s.data.toList.length := by simpa using h
  rw [List.getD_eq_getElem?_getD, List.getElem?_eq_getElem h']
  rfl
theorem parseR_good (s : ByteArray) (h3 : 3 ≤ s.size) (heq : (s.size : Int) = (3 : Int) + (2 : Int) * (s[2].toNat : Int)) :
    parseR s.data.toList = if packF (s[0].toNat : Int) (s[1].toNat : Int) (pairs (s.data.toList.drop 3)) = 0 then ((s[0].toNat : Int), (s[1].toNat : Int), pairs (s.data.toList.drop 3), 0) else (0, 0, [], 4) := by
  have hl : s.data.toList.length = s.size := by simp
  unfold parseR
  rw [byte_get s 0 (by omega), byte_get s 1 (by omega), byte_get s 2 (by omega), hl, if_neg (by omega)]
/-- Behind the stores into the result. -/
theorem parse_end {w w1 : World} {ao : Option Addr} {k cp : Nat} {ok : List Opt} {x y z : Value} (hrow : Row w1 2 (.slice ao k cp) k (optCells ok)) (hnew : ∀ j, Value.ownBlock (.slice ao k cp) = some j → w.heap.size + 2 ≤ j) (hb : Below w.heap.size w w1) :
    OptR (((w1.setCell ⟨w.heap.size, 0, none⟩ x).setCell ⟨w.heap.size, 1, none⟩ y).setCell ⟨w.heap.size, 2, none⟩ z) ao k ok ∧ Below w.heap.size w (((w1.setCell ⟨w.heap.size, 0, none⟩ x).setCell ⟨w.heap.size, 1, none⟩ y).setCell ⟨w.heap.size, 2, none⟩ z) := by
  refine ⟨Row.opts (hrow.keep (by simp) (fun j hj => ?_)), ((hb.setCell (Nat.le_refl _) _).setCell (Nat.le_refl _) _).setCell (Nat.le_refl _) _⟩
  have := hnew j hj
  rw [Below.heap_setCell _ _ _ _ (by show j ≠ w.heap.size; omega), Below.heap_setCell _ _ _ _ (by show j ≠ w.heap.size; omega), Below.heap_setCell _ _ _ _ (by show j ≠ w.heap.size; omega)]
theorem heap_two_last (w : World) (a b : Obj) : ((w.alloc a).alloc b).drew.heap[w.heap.size + 1]? = some b := by
  have h := heap_alloc_new (w.alloc a) b
  have e : (w.alloc a).heap.size = w.heap.size + 1 := by simp
  rw [e] at h
  exact h
theorem heap_two_first (w : World) (a b : Obj) : ((w.alloc a).alloc b).drew.heap[w.heap.size]? = some a := by
  show ((w.alloc a).alloc b).heap[w.heap.size]? = some a
  rw [Below.heap_alloc (w.alloc a) b w.heap.size (by simp)]
  exact heap_alloc_new w a
/-- Behind a round: what is gathered, the packet's own cells, the result's. -/
theorem parse_step {w wr x1 : World} {ob : Obj} {ao : Option Addr} {k cp g' cap' : Nat} {ok : List Opt} {c d : Int} {x y : Nat}
    (hpb : wr.heap[w.heap.size + 1]? = some (.cells #[.int .i64 c, .int .i64 d, .slice ao k cp] 47 (0, 0)))
    (hrb : wr.heap[w.heap.size]? = some (.cells #[.int .i64 0, .int .i64 0, .slice none 0 0] 47 (0, 0)))
    (_hrow : Row wr 2 (.slice ao k cp) k (optCells ok)) (hnew : ∀ j, Value.ownBlock (.slice ao k cp) = some j → w.heap.size + 2 ≤ j) (hbel : Below w.heap.size w wr)
    (hr : Row x1 2 (.slice (some ⟨g', 0, none⟩) (k + 1) cap') (k + 1) (optCells ok ++ [.int .i64 (IntKind.i64.wrap (x : Int)), .int .i64 (IntKind.i64.wrap (y : Int))]))
    (hg : (wr.alloc ob).drew.grownBy x1 (Value.ownBlock (.slice ao k cp))) (hown : Value.ownBlock (.slice ao k cp) = some g' ∨ (wr.alloc ob).drew.heap.size ≤ g') (hx : x < 2 ^ 8) (hy : y < 2 ^ 8) :
    Row (x1.setCell ⟨w.heap.size + 1, 2, none⟩ (.slice (some ⟨g', 0, none⟩) (k + 1) cap')) 2 (.slice (some ⟨g', 0, none⟩) (k + 1) cap') (k + 1) (optCells (ok ++ [((x : Int), (y : Int))])) ∧
    (x1.setCell ⟨w.heap.size + 1, 2, none⟩ (.slice (some ⟨g', 0, none⟩) (k + 1) cap')).heap[w.heap.size + 1]? = some (.cells #[.int .i64 c, .int .i64 d, .slice (some ⟨g', 0, none⟩) (k + 1) cap'] 47 (0, 0)) ∧
    (x1.setCell ⟨w.heap.size + 1, 2, none⟩ (.slice (some ⟨g', 0, none⟩) (k + 1) cap')).heap[w.heap.size]? = some (.cells #[.int .i64 0, .int .i64 0, .slice none 0 0] 47 (0, 0)) ∧
    (∀ j, Value.ownBlock (.slice (some ⟨g', 0, none⟩) (k + 1) cap') = some j → w.heap.size + 2 ≤ j) ∧ Below w.heap.size w (x1.setCell ⟨w.heap.size + 1, 2, none⟩ (.slice (some ⟨g', 0, none⟩) (k + 1) cap')) := by
  have hlt : w.heap.size + 1 < wr.heap.size := (Array.getElem?_eq_some_iff.1 hpb).1
  have k1 := keep_block (b := w.heap.size + 1) hnew hg (by omega) hlt
  have k0 := keep_block (b := w.heap.size) hnew hg (by omega) (by omega)
  have hs0 : (wr.alloc ob).drew.heap.size = wr.heap.size + 1 := by show (wr.alloc ob).heap.size = _; simp
  have hgl : w.heap.size + 2 ≤ g' := by
    rcases hown with h | h
    · exact hnew g' h
    · omega
  have hp1 : x1.heap[w.heap.size + 1]? = some (.cells #[.int .i64 c, .int .i64 d, .slice ao k cp] 47 (0, 0)) := by rw [k1]; exact hpb
  refine ⟨?_, ?_, ?_, ?_, ?_⟩
  · have ex : IntKind.i64.wrap (x : Int) = (x : Int) := IntWalk.i64_in _ ⟨by omega, by omega⟩
    have ey : IntKind.i64.wrap (y : Int) = (y : Int) := IntWalk.i64_in _ ⟨by omega, by omega⟩
    rw [ex, ey, ← optCells_snoc ok ((x : Int), (y : Int))] at hr
    refine hr.keep (by simp) (fun j hj => ?_)
    have : g' = j := by simpa [Value.ownBlock] using hj
    exact Below.heap_setCell _ _ _ _ (by show j ≠ w.heap.size + 1; omega)
  · rw [setCell_eq_setRow x1 (w.heap.size + 1) 2 _ 47 (0, 0) _ hp1]
    exact setRow_heap x1 _ _ _ 47 (0, 0) hp1
  · rw [Below.heap_setCell _ _ _ _ (by show w.heap.size ≠ w.heap.size + 1; omega), k0]
    exact hrb
  · intro j hj
    have : g' = j := by simpa [Value.ownBlock] using hj
    omega
  · have hb2 : Below w.heap.size w (wr.alloc ob).drew := (hbel.alloc hbel.size _).drew
    refine Below.setCell ?_ (by show w.heap.size ≤ w.heap.size + 1; omega) _
    refine hb2.grown hg (by omega) (fun j hj => ?_)
    have := hnew j hj
    omega

set_option maxRecDepth 100000 in
set_option maxHeartbeats 4000000 in
theorem parse_good (s : ByteArray) (w : World) (hs : s.size ≤ 1000) (h3 : 3 ≤ s.size) (heq : (s.size : Int) = (3 : Int) + (2 : Int) * (s[2].toNat : Int)) :
    Calls Try.prog 25 #[.string s] w fun e w' => Parsed s.data.toList w e w' := by
  obtain ⟨i0, hi, hz0, hz1, hz2⟩ := info_parts info70
  have hz := zero47
  have g1 : ¬ (s.size : Int) < 3 := by omega
  have hb2 := s[2].toNat_lt
  have g2 : ((s.size : Int) != (3 : Int) + (2 : Int) * (s[2].toNat : Int)) = false := by rw [heq]; simp
  have HE : Hid _ := heq
  clear heq
  have b0 : 0 < s.size := by omega
  have b1 : 1 < s.size := by omega
  have b2 : 2 < s.size := by omega
  have hb0 := s[0].toNat_lt
  have hb1 := s[1].toNat_lt
  have z0 : (0 : Int) < (s.size : Int) := by omega
  have z1 : (1 : Int) < (s.size : Int) := by omega
  go_enter Try.func25, Try.ntmps25
  go_wp2_with (fail)
  go_region
  go_wp2_with (fail)
  go_loopw [5] (fun i wr => ∃ (k cp : Nat) (ao : Option Addr) (ok : List Opt), 3 + 2 * k ≤ s.size ∧ i = .int .i64 ((3 + 2 * k : Nat) : Int) ∧ ok.length = k ∧ pairs (s.data.toList.drop 3) = ok ++ pairs (s.data.toList.drop (3 + 2 * k)) ∧ Row wr 2 (.slice ao k cp) k (optCells ok) ∧
      wr.heap[w.heap.size + 1]? = some (.cells #[.int .i64 (s[0].toNat : Int), .int .i64 (s[1].toNat : Int), .slice ao k cp] 47 (0, 0)) ∧ wr.heap[w.heap.size]? = some (.cells #[.int .i64 0, .int .i64 0, .slice none 0 0] 47 (0, 0)) ∧
      (∀ j, Value.ownBlock (.slice ao k cp) = some j → w.heap.size + 2 ≤ j) ∧ Below w.heap.size w wr)
    (fun i _ => s.size - (intOf i).toNat)
  case atStart =>
    refine ⟨0, 0, none, [], by omega, rfl, rfl, rfl, Row.nil _ _, ?_, ?_, fun j hj => by simp [Value.ownBlock] at hj, (((Below.refl _ _).alloc (Nat.le_refl _) _).alloc (by simp) _).drew⟩
    · exact heap_two_last w _ _
    · exact heap_two_first w _ _
  case round =>
    obtain ⟨k, cp, ao, ok, hk, rfl, hok, hP0, hrow, hpb, hrb, hnew, hbel⟩ := hrel
    have hP : Hid _ := hP0
    clear hP0
    have cv : wr.cell? ⟨w.heap.size + 1, 2, none⟩ = some (.slice ao k cp) := cell_of_row wr _ 2 _ 47 (0, 0) hpb
    have fv : wr.frozen? ⟨w.heap.size + 1, 2, none⟩ = false := frozen_of_row wr _ 2 _ 47 hpb
    have hzz : w.heap.size + 1 < wr.heap.size := World.block_lt_of_cell? wr _ cv
    have HPB : Hid _ := hpb
    have HRB : Hid _ := hrb
    clear hpb hrb
    by_cases hlt : 3 + 2 * k < s.size
    · have hlt1 : 3 + 2 * k + 1 < s.size := by have := HE.out; omega
      obtain ⟨q, hq⟩ : ∃ q, q = 3 + 2 * k := ⟨_, rfl⟩
      rw [← hq] at hlt hlt1
      have HQ : Hid (q = 3 + 2 * k) := hq
      have y0 : (0 : Int) ≤ (q : Int) := by omega
      have y1 : (q : Int) < (s.size : Int) := by omega
      have y2 : (q : Int) + 1 < (s.size : Int) := by omega
      have y3 : (0 : Int) ≤ (q : Int) + 1 := by omega
      have yw : IntKind.i64.wrap ((q : Int) + 1) = (q : Int) + 1 := IntWalk.i64_in _ ⟨by omega, by omega⟩
      have hbq := s[q].toNat_lt
      have hbq1 := s[q + 1].toNat_lt
      have m1 : k + 1 ≤ maxLen := by unfold maxLen; omega
      have bb1 : (k + 1) * 16 ≤ 140737488355328 := by omega
      rw [← hq]
      clear hq
      have HP2 : Hid (pairs (s.data.toList.drop 3) = (ok ++ [((s[q].toNat : Int), (s[q + 1].toNat : Int))]) ++ pairs (s.data.toList.drop (3 + 2 * (k + 1)))) := by
        show pairs (s.data.toList.drop 3) = _
        rw [hP.out, ← HQ.out, pdrop_cons s q hlt, pdrop_cons s (q + 1) hlt1]
        have e1 : q + 1 + 1 = 3 + 2 * (k + 1) := by have := HQ.out; omega
        rw [e1]
        simp [pairs]
      go_wp2_with (fail)
      go_region_law ((refine step_append_row (by rfl) (.tmp 35) (.tmp 46) 45 (by rfl) 70 i0 (.agg #[.int .i64 0, .int .i64 0]) 2 16 Try.underlying45 hi hz0 hz1 hz2 (by rfl) (by decide) (.slice ao k cp) k (optCells ok) (by rfl) ((hrow.alloc _).drew) _ 1 1 [.int .i64 (IntKind.i64.wrap (s[q].toNat : Int)), .int .i64 (IntKind.i64.wrap (s[q + 1].toNat : Int))] (by rfl) (by rfl) (by decide) (cells_two_drew _ _ _ _) (one_ints _ _ _ _) m1 bb1 ?_; intro g' cap' x1 hr1 hg1 hown1; have c1 := keep_cell hnew hg1 cv; have f1 := keep_frozen hnew hg1 cv fv))
      all_goals have hS := parse_step (c := (s[0].toNat : Int)) (d := (s[1].toNat : Int)) HPB.out HRB.out hrow hnew hbel hr1 hg1 hown1 s[q].toNat_lt s[q + 1].toNat_lt
      all_goals clear hr1 hg1 hown1 c1 f1
      all_goals go_wp2_with (fail)
      all_goals go_roundw
      all_goals first
        | exact ⟨k + 1, cap', some ⟨g', 0, none⟩, _, by have := HQ.out; omega, by have := HQ.out; go_num, by simp [hok], HP2.out, hS⟩
        | (simp [intOf]; omega)
    · have hkm : 3 + 2 * k = s.size := by omega
      have hoks : pairs (s.data.toList.drop 3) = ok := by
        rw [hP.out, hkm, List.drop_eq_nil_of_le (by show s.size ≤ s.size; omega)]
        simp [pairs]
      have hopt := hrow.opts
      have hcp := hrow.cap_le
      have c0 : wr.cell? ⟨w.heap.size + 1, 0, none⟩ = some (.int .i64 (s[0].toNat : Int)) := cell_of_row wr _ 0 _ 47 (0, 0) HPB.out
      have c1 : wr.cell? ⟨w.heap.size + 1, 1, none⟩ = some (.int .i64 (s[1].toNat : Int)) := cell_of_row wr _ 1 _ 47 (0, 0) HPB.out
      have hcall := check_any (s[0].toNat : Int) (s[1].toNat : Int) ao k cp ok wr (by omega) hcp hopt
      have HK : Hid (pairs (s.data.toList.drop 3) = ok) := hoks
      clear hP hoks hkm
      by_cases hf : packF (s[0].toNat : Int) (s[1].toNat : Int) ok = 0
      · have e0 : errV 0 = .nilIface := rfl
        rw [hf, e0] at hcall
        clear e0
        have HF : Hid _ := hf
        clear hf
        go_wp2_with (fail)
        refine hcall.mono ?_
        rintro e w1 ⟨rfl, hb1⟩
        have d0 := (hb1.cell (p := ⟨w.heap.size + 1, 0, none⟩) hzz).trans c0
        have d1 := (hb1.cell (p := ⟨w.heap.size + 1, 1, none⟩) hzz).trans c1
        have d2 := (hb1.cell (p := ⟨w.heap.size + 1, 2, none⟩) hzz).trans cv
        obtain ⟨r0, r1, r2, r3⟩ := parse_result HRB.out hb1
        have hw2 := below_chain hbel hb1
        have hE := parse_end (x := .int .i64 (s[0].toNat : Int)) (y := .int .i64 (s[1].toNat : Int)) (z := .slice ao k cp) (hrow.below hb1) hnew hw2
        have HV : Hid (parseR s.data.toList = ((s[0].toNat : Int), (s[1].toNat : Int), ok, 0)) := by
          show parseR s.data.toList = _
          rw [parseR_good s h3 HE.out, HK.out, if_pos HF.out]
        clear hcall hb1 c0 c1 cv hrow
        go_wp2_with (fail)
        refine bodyPost_ret (v := .tuple #[.agg #[.int .i64 (s[0].toNat : Int), .int .i64 (s[1].toNat : Int), .slice ao k cp], .nilIface]) (by simp [results, Try.results25, go_sem, r0, r1, r2]) rfl ?_
        exact ⟨ao, k, cp, 0, _, _, ok, rfl, hE.1, hcp, HV.out, hE.2⟩
      · have e0 : errV (packF (s[0].toNat : Int) (s[1].toNat : Int) ok) = .iface 64 (.int .i64 (packF (s[0].toNat : Int) (s[1].toNat : Int) ok : Int)) := by simp [errV, hf]
        rw [e0] at hcall
        clear e0
        have HF : Hid _ := hf
        clear hf
        have HV : Hid (parseR s.data.toList = (0, 0, [], 4)) := by
          show parseR s.data.toList = _
          rw [parseR_good s h3 HE.out, HK.out, if_neg HF.out]
        generalize packF (s[0].toNat : Int) (s[1].toNat : Int) ok = ff at hcall
        go_wp2_with (fail)
        refine hcall.mono ?_
        rintro e w1 ⟨rfl, hb1⟩
        obtain ⟨r0, r1, r2, r3⟩ := parse_result HRB.out hb1
        have hw2 := below_chain hbel hb1
        have hE := parse_end (ok := []) (ao := none) (k := 0) (cp := 0) (x := .int .i64 0) (y := .int .i64 0) (z := .slice none 0 0) (Row.nil w1 2) (fun j hj => by simp [Value.ownBlock] at hj) hw2
        clear hcall hb1 c0 c1 cv hrow hopt
        go_wp2_with (fail)
        refine bodyPost_ret (v := .tuple #[.agg #[.int .i64 0, .int .i64 0, .slice none 0 0], .iface 64 (.int .i64 4)]) (by simp [results, Try.results25, go_sem, r0, r1, r2]) rfl ?_
        exact ⟨none, 0, 0, 4, 0, 0, [], rfl, hE.1, Nat.le_refl _, HV.out, hE.2⟩

set_option maxRecDepth 100000 in
set_option maxHeartbeats 2000000 in
theorem parse_bad (s : ByteArray) (w : World) (hs : s.size ≤ 1000) (h : parseR s.data.toList = (0, 0, [], 4)) (hb : s.size < 3 ∨ ∃ h3 : 3 ≤ s.size, (s.size : Int) ≠ (3 : Int) + (2 : Int) * (s[2].toNat : Int)) :
    Calls Try.prog 25 #[.string s] w fun e w' => Parsed s.data.toList w e w' := by
  have hz := zero47
  have HV : Hid _ := h
  clear h
  have hw1 : Below w.heap.size w (w.alloc (.cells #[.int .i64 0, .int .i64 0, .slice none 0 0] 47)) := (Below.refl _ _).alloc (Nat.le_refl _) _
  have hnil : OptR (w.alloc (.cells #[.int .i64 0, .int .i64 0, .slice none 0 0] 47)) none 0 [] := ⟨rfl, .inl rfl⟩
  rcases hb with h1 | ⟨h3, h2⟩
  · have g1 : (s.size : Int) < 3 := by omega
    go_enter Try.func25, Try.ntmps25
    go_wp2_with (fail)
    refine bodyPost_ret (v := .tuple #[.agg #[.int .i64 0, .int .i64 0, .slice none 0 0], .iface 64 (.int .i64 4)]) (by simp [results, Try.results25, go_sem]) rfl ?_
    exact ⟨none, 0, 0, 4, 0, 0, [], rfl, hnil, Nat.le_refl _, HV.out, hw1⟩
  · have g1 : ¬ (s.size : Int) < 3 := by omega
    have hb2 := s[2].toNat_lt
    have b2 : 2 < s.size := by omega
    have g2 : ((s.size : Int) != (3 : Int) + (2 : Int) * (s[2].toNat : Int)) = true := by rw [bne_iff_ne]; exact h2
    clear h2
    go_enter Try.func25, Try.ntmps25
    go_wp2_with (fail)
    refine bodyPost_ret (v := .tuple #[.agg #[.int .i64 0, .int .i64 0, .slice none 0 0], .iface 64 (.int .i64 4)]) (by simp [results, Try.results25, go_sem]) rfl ?_
    exact ⟨none, 0, 0, 4, 0, 0, [], rfl, hnil, Nat.le_refl _, HV.out, hw1⟩

theorem parse_any (s : ByteArray) (w : World) (hs : s.size ≤ 1000) : Calls Try.prog 25 #[.string s] w fun e w' => Parsed s.data.toList w e w' := by
  have hl : s.data.toList.length = s.size := by simp
  by_cases h3 : 3 ≤ s.size
  · by_cases heq : (s.size : Int) = (3 : Int) + (2 : Int) * (s[2].toNat : Int)
    · exact parse_good s w hs h3 heq
    · refine parse_bad s w hs ?_ (.inr ⟨h3, heq⟩)
      unfold parseR
      rw [byte_get s 2 (by omega), hl, if_pos (.inr heq)]
  · refine parse_bad s w hs ?_ (.inl (by omega))
    unfold parseR
    rw [hl, if_pos (.inl (by omega))]
end Go.Proofs.Ytnafklmigndgeaa
