/-
  Slices that a call itself made: what they hold ('Row'), and that 'append' onto one makes one that holds both.
  Nothing of the program is imported: the laws hold over every program.
-/
import Derived.WalkKit
import Derived.Laws.IdiomStrings
import Derived.Laws.IdiomCopy
import Derived.ArgAppend
namespace Go.Proofs.YtgfjgenkpfdofaaDoor
open Go.RowKit

theorem add_plain (g j : Nat) : (⟨g, 0, none⟩ : Addr).add j = ⟨g, j, none⟩ := by unfold Addr.add; split <;> simp_all
theorem add_plain' (g o j : Nat) : (⟨g, o, none⟩ : Addr).add j = ⟨g, o + j, none⟩ := by unfold Addr.add; split <;> simp_all

/-- The slice v has n elements of 'sz' cells each: the cells xs; its spare cells are there, none is frozen. -/
def Row (w : World) (sz : Nat) (v : Value) (n : Nat) (xs : List Value) : Prop :=
  xs.length = n * sz ∧
  ((v = .slice none 0 0 ∧ n = 0) ∨
   ∃ g cap, v = .slice (some ⟨g, 0, none⟩) n cap ∧ g < w.heap.size ∧ n ≤ cap ∧ cap ≤ maxLen ∧ (∀ j u, xs[j]? = some u → w.cell? ⟨g, j, none⟩ = some u) ∧
     ∀ j, j < cap * sz → (w.cell? ⟨g, j, none⟩).isSome = true ∧ w.frozen? ⟨g, j, none⟩ = false)

theorem Row.nil (w : World) (sz : Nat) : Row w sz (.slice none 0 0) 0 [] := ⟨by simp, .inl ⟨rfl, rfl⟩⟩

theorem Row.lt {w : World} {sz : Nat} {v : Value} {n : Nat} {xs : List Value} (h : Row w sz v n xs) : ∀ k, v.ownBlock = some k → k < w.heap.size := by
  intro k hk
  rcases h.2 with ⟨rfl, _⟩ | ⟨g, cap, rfl, hg, _⟩
  · simp [Value.ownBlock] at hk
  · simp [Value.ownBlock] at hk
    subst hk
    exact hg

theorem Row.keep {w w' : World} {sz : Nat} {v : Value} {n : Nat} {xs : List Value} (h : Row w sz v n xs) (hs : w.heap.size ≤ w'.heap.size) (hb : ∀ k, v.ownBlock = some k → w'.heap[k]? = w.heap[k]?) : Row w' sz v n xs := by
  refine ⟨h.1, ?_⟩
  rcases h.2 with hn | ⟨g, cap, rfl, hg, h1, h2, h3, h4⟩
  · exact .inl hn
  · have e := hb g rfl
    have ec : ∀ j, w'.cell? ⟨g, j, none⟩ = w.cell? ⟨g, j, none⟩ := fun j => World.cell?_of_block (a := ⟨g, j, none⟩) e
    have ef : ∀ j, w'.frozen? ⟨g, j, none⟩ = w.frozen? ⟨g, j, none⟩ := fun j => World.frozen?_of_block (a := ⟨g, j, none⟩) e
    exact .inr ⟨g, cap, rfl, by omega, h1, h2, fun j u hu => by rw [ec]; exact h3 j u hu, fun j hj => by rw [ec, ef]; exact h4 j hj⟩

theorem Row.kept {w w' : World} {sz : Nat} {v : Value} {n : Nat} {xs : List Value} {row : Option Nat} (h : Row w sz v n xs) (hg : w.grownBy w' row) (hne : ∀ k, v.ownBlock = some k → row ≠ some k) : Row w' sz v n xs :=
  h.keep hg.size fun k hk => hg.block k (h.lt k hk) (fun e => hne k hk e.symm)
theorem Row.alloc {w : World} {sz : Nat} {v : Value} {n : Nat} {xs : List Value} (h : Row w sz v n xs) (o : Obj) : Row (w.alloc o) sz v n xs :=
  h.keep (by simp) fun k hk => Below.heap_alloc w o k (h.lt k hk)
theorem Row.drew {w : World} {sz : Nat} {v : Value} {n : Nat} {xs : List Value} (h : Row w sz v n xs) : Row w.drew sz v n xs :=
  h.keep (Nat.le_refl _) fun _ _ => rfl
theorem Row.below {w w' : World} {sz : Nat} {v : Value} {n : Nat} {xs : List Value} (h : Row w sz v n xs) (hb : Below w.heap.size w w') : Row w' sz v n xs :=
  h.keep hb.size fun k hk => hb.block k (h.lt k hk)

/-- A row that owns as the library says it is one. -/
theorem Row.of_owns {w : World} {base : Nat} {e : TypeId} {sz : Nat} {v : Value} {n : Nat} {xs : List Value} (h : w.ownsRow base e sz v n xs) : Row w sz v n xs := by
  refine ⟨h.1, ?_⟩
  rcases h.2 with hn | ⟨g, cap, cur, rfl, hb, hg, h1, h2, h3, h4⟩
  · exact .inl hn
  · refine .inr ⟨g, cap, rfl, (Array.getElem?_eq_some_iff.1 hg).1, h1, h2, fun j u hu => ?_, fun j hj => ⟨?_, ?_⟩⟩
    · have := h.cells (g := g) rfl j u hu
      rwa [add_plain] at this
    · rw [cell_of_row w g j cur e (0, 0) hg]
      simp; omega
    · exact frozen_of_row w g j cur e hg

/-- The new row of a literal, or of whatever lays its cells at once. -/
theorem Row.made (w : World) (sz : Nat) (e : TypeId) (C : Array Value) (fr : Nat × Nat) (n cap : Nat) (xs : List Value) (hx : xs.length = n * sz) (hc : C.size = cap * sz) (hn : n ≤ cap) (hm : cap ≤ maxLen) (hfr : fr = (0, 0) ∨ C.size ≤ fr.1)
    (ht : ∀ (j : Nat) (u : Value), xs[j]? = some u → C[j]? = some u) : Row (w.alloc (.cells C e fr)) sz (.slice (some ⟨w.heap.size, 0, none⟩) n cap) n xs := by
  refine ⟨hx, .inr ⟨w.heap.size, cap, rfl, by simp, hn, hm, fun j u hu => ?_, fun j hj => ⟨?_, ?_⟩⟩⟩
  · rw [World.cell?_alloc_mark]; exact ht j u hu
  · rw [World.cell?_alloc_mark]; simp; omega
  · obtain ⟨lo, hi⟩ := fr
    rw [World.frozen?_alloc_mark]
    rcases hfr with e1 | e1
    · simp only [Prod.mk.injEq] at e1
      obtain ⟨rfl, rfl⟩ := e1
      simp
    · simp only at e1
      have : ¬ lo ≤ j := by omega
      simp [this]

/-- The cells that are there. -/
theorem Row.cell {w : World} {sz : Nat} {g n n' cap : Nat} {xs : List Value} (h : Row w sz (.slice (some ⟨g, 0, none⟩) n' cap) n xs) (j : Nat) (u : Value) (hu : xs[j]? = some u) : w.cell? ⟨g, j, none⟩ = some u := by
  rcases h.2 with ⟨e, _⟩ | ⟨g', cap', e, _, _, _, hc, _⟩
  · simp at e
  · simp at e
    obtain ⟨rfl, rfl, rfl⟩ := e
    exact hc j u hu
theorem cells_one (w : World) (x : Value) (t : TypeId) : ∀ (j : Nat) (u : Value), [x][j]? = some u → (w.alloc (.cells #[x] t)).cell? ((⟨w.heap.size, 0, none⟩ : Addr).add j) = some u := by
  intro j u hu
  rw [add_plain, World.cell?_alloc_mark]
  simpa using hu
theorem cells_two (w : World) (x y : Value) (t : TypeId) : ∀ (j : Nat) (u : Value), [x, y][j]? = some u → (w.alloc (.cells #[x, y] t)).cell? ((⟨w.heap.size, 0, none⟩ : Addr).add j) = some u := by
  intro j u hu
  rw [add_plain, World.cell?_alloc_mark]
  simpa using hu
theorem one_int (k : IntKind) (x : Int) : ∀ u ∈ [Value.int k x], u.oneCell' = true := by simp [Value.oneCell']
theorem one_ints (k l : IntKind) (x y : Int) : ∀ u ∈ [Value.int k x, Value.int l y], u.oneCell' = true := by simp [Value.oneCell']
theorem one_string (s : ByteArray) : ∀ u ∈ [Value.string s], u.oneCell' = true := by simp [Value.oneCell']

/-- Behind an 'append' onto the row in block g, whose news lay in a new block: another row stands, and nothing below B has turned. -/
theorem row_step {w wr w2 : World} {o : Obj} {g g2 g1 sz n n' cap : Nat} {xs : List Value} (hgr : (wr.alloc o).grownBy w2 (some g)) (hown : some g = some g2 ∨ wr.heap.size + 1 ≤ g2)
    (hS : Row wr sz (.slice (some ⟨g1, 0, none⟩) n' cap) n xs) (hgw : w.heap.size ≤ g) (hne : g ≠ g1) (hbel : Below w.heap.size w wr) :
    Row w2 sz (.slice (some ⟨g1, 0, none⟩) n' cap) n xs ∧ w.heap.size ≤ g2 ∧ g2 ≠ g1 ∧ Below w.heap.size w w2 := by
  have h1 : g1 < wr.heap.size := hS.lt g1 rfl
  have hz := hbel.size
  have hs : (wr.alloc o).heap.size = wr.heap.size + 1 := by simp
  refine ⟨(hS.alloc o).kept hgr (fun k hk => ?_), ?_, ?_, ?_⟩
  · have : g1 = k := by simpa [Value.ownBlock] using hk
    intro e
    simp at e
    omega
  · rcases hown with h | h
    · simp at h; omega
    · omega
  · rcases hown with h | h
    · simp at h; omega
    · omega
  · refine (hbel.alloc hz o).grown hgr (by omega) (fun k hk => ?_)
    simp at hk
    omega
/-- The same where no other row is to be kept. -/
theorem row_step1 {w wr w2 : World} {o : Obj} {g g2 : Nat} (hgr : (wr.alloc o).grownBy w2 (some g)) (hown : some g = some g2 ∨ wr.heap.size + 1 ≤ g2)
    (hgw : w.heap.size ≤ g) (hbel : Below w.heap.size w wr) : w.heap.size ≤ g2 ∧ Below w.heap.size w w2 := by
  have hz := hbel.size
  have hs : (wr.alloc o).heap.size = wr.heap.size + 1 := by simp
  refine ⟨?_, ?_⟩
  · rcases hown with h | h
    · simp at h; omega
    · omega
  · refine (hbel.alloc hz o).grown hgr (by omega) (fun k hk => ?_)
    simp at hk
    omega

section
variable {P : Program}

theorem run_append_row (w : World) (t ty e : TypeId) (i : TypeInfo) (z : Value) (size bytes : Nat) (ht : P.underlying t = some (.slice e)) (hi : P.info? e = some i) (hz : i.zero = some z)
    (hsize : i.size = size) (hby : i.bytes = bytes) (hzs : z.cells.size = size) (hsz : 0 < size)
    (v : Value) (n : Nat) (xs : List Value) (hown : Row w size v n xs)
    (a : Addr) (m c : Nat) (news : List Value) (hl : news.length = m * size) (hm : 0 < m) (hnews : ∀ j u, news[j]? = some u → w.cell? (a.add j) = some u) (h1 : ∀ u ∈ news, u.oneCell' = true)
    (h63 : n + m ≤ maxLen) (hbytes : (n + m) * bytes ≤ 140737488355328) :
    ∃ v' w', (Builtin.append_ #[t, t] ty #[v, .slice (some a) m c]).run P w = .ok v' w' ∧ Row w' size v' (n + m) (xs ++ news) ∧ w.grownBy w' v.ownBlock ∧
      (v'.ownBlock = v.ownBlock ∨ ∃ k, v'.ownBlock = some k ∧ w.heap.size ≤ k) := by
  rcases hown.2 with ⟨rfl, rfl⟩ | ⟨g, cap, rfl, hg, hnc, hcm, hcell, hsp⟩
  · have hx : xs = [] := List.eq_nil_of_length_eq_zero (by simpa using hown.1)
    subst hx
    obtain ⟨v', w', hr, ho, hg, hnil⟩ := run_append_own (P := P) w w.heap.size t ty e i z size bytes ht hi hz hsize hby hzs hsz (.slice none 0 0) 0 [] (World.ownsRow_nil _ _ _ _) a m c news hl hnews h1 h63 hbytes (Nat.le_refl _)
    refine ⟨v', w', hr, Row.of_owns ho, hg, ?_⟩
    rcases ho.2 with ⟨e1, e2⟩ | ⟨g, cap, cur, rfl, hb, _⟩
    · omega
    · exact .inr ⟨g, rfl, hb⟩
  · by_cases hr : n + m ≤ cap
    · subst hsize
      have hfit : n * i.size + news.length ≤ cap * i.size := by rw [hl, ← Nat.add_mul]; exact Nat.mul_le_mul_right _ hr
      have hin : ∀ j, j < news.length → (w.cell? ⟨g, 0 + n * i.size + j, none⟩).isSome = true ∧ w.frozen? ⟨g, 0 + n * i.size + j, none⟩ = false := fun j hj => hsp _ (by omega)
      have hrun := run_append_room_cells (P := P) w t ty e i ht hi g 0 n cap a m c news hl hnews h1 hr (fun j hj => (hin j hj).1) (fun j hj => (hin j hj).2)
      have hblk : ∀ (vs : List Value) (o : Nat) (w : World), (w.setCells g o vs).heap.size = w.heap.size ∧ (w.setCells g o vs).os = w.os ∧ (w.setCells g o vs).tape = w.tape ∧ (w.setCells g o vs).output = w.output ∧ ∀ k, k ≠ g → (w.setCells g o vs).heap[k]? = w.heap[k]? := by
        intro vs
        induction vs with
        | nil => intro o w; exact ⟨rfl, rfl, rfl, rfl, fun _ _ => rfl⟩
        | cons u r ih =>
          intro o w
          have := ih (o + 1) (w.setCell ⟨g, o, none⟩ u)
          have b1 : Below 0 w (w.setCell ⟨g, o, none⟩ u) := (Below.refl 0 w).setCell (Nat.zero_le _) _
          refine ⟨this.1.trans (by simp), this.2.1.trans b1.os, this.2.2.1.trans b1.tape, this.2.2.2.1.trans b1.output, fun k hk => (this.2.2.2.2 k hk).trans (Below.heap_setCell _ _ _ k hk)⟩
      have B := hblk news (0 + n * i.size) w
      refine ⟨_, _, hrun, ⟨by rw [List.length_append, hown.1, hl, Nat.add_mul], .inr ⟨g, cap, rfl, by rw [B.1]; exact hg, hr, hcm, fun j u hu => ?_, fun j hj => ?_⟩⟩, ⟨B.2.1, B.2.2.1, B.2.2.2.1, by rw [B.1]; exact Nat.le_refl _, fun k _ hk => B.2.2.2.2 k (fun e => hk (by simp [Value.ownBlock, e]))⟩, .inl rfl⟩
      · rcases Nat.lt_or_ge j xs.length with hj | hj
        · rw [List.getElem?_append_left hj] at hu
          rw [World.cell?_setCells_out g _ _ _ _ (fun _ _ => .inl (by show j < 0 + n * i.size; have := hown.1; omega))]
          exact hcell j u hu
        · rw [List.getElem?_append_right hj] at hu
          have hj2 : j - xs.length < news.length := (List.getElem?_eq_some_iff.1 hu).1
          have := World.cell?_setCells_in g news (0 + n * i.size) w (fun k hk => (hin k hk).1) (j - xs.length) hj2
          have e1 : 0 + n * i.size + (j - xs.length) = j := by have := hown.1; omega
          rw [e1] at this
          rw [this, ← hu, List.getElem?_eq_getElem hj2]
      · rw [World.frozen?_setCells]
        refine ⟨?_, (hsp j hj).2⟩
        by_cases hq : n * i.size ≤ j ∧ j < n * i.size + news.length
        · have := World.cell?_setCells_in g news (0 + n * i.size) w (fun k hk => (hin k hk).1) (j - n * i.size) (by omega)
          have e1 : 0 + n * i.size + (j - n * i.size) = j := by omega
          rw [e1] at this
          rw [this]; rfl
        · rw [World.cell?_setCells_out g _ _ _ _ (fun _ _ => by show j < 0 + n * i.size ∨ 0 + n * i.size + news.length ≤ j; omega)]
          exact (hsp j hj).1
    · obtain ⟨v', w', hrun, ho, hgr⟩ := run_append_arg_grows (P := P) w t ty e i z size bytes ht hi hz hsize hby hzs hsz ⟨g, 0, none⟩ n cap xs hown.1 (fun j u hj => by rw [add_plain]; exact hcell j u hj) a m c news hl hnews (by omega) h63 hbytes
      refine ⟨v', w', hrun, Row.of_owns ho, ⟨hgr.os, hgr.tape, hgr.output, hgr.size, fun k hk _ => hgr.block k hk (by simp)⟩, ?_⟩
      rcases ho.2 with ⟨e1, e2⟩ | ⟨g', cap', cur, rfl, hb, _⟩
      · omega
      · exact .inr ⟨g', rfl, hb⟩

theorem wpList_append_row (w : World) {ops : Array Oper} {rest : List Oper} {o : Oper} {a : Act} {Q : Exit → Act → World → Prop} (hgd : o.guard = none) (s x : Operand) (t : TypeId)
    (ho : o.op = .call { callee := .builtin .append, args := #[s, x], argTypes := #[t, t] })
    (e : TypeId) (i : TypeInfo) (z : Value) (size bytes : Nat) (ht : P.underlying t = some (.slice e)) (hi : P.info? e = some i) (hz : i.zero = some z)
    (hsize : i.size = size) (hby : i.bytes = bytes) (hzs : z.cells.size = size) (hsz : 0 < size)
    (v : Value) (n : Nat) (xs : List Value) (hs : a.eval s = v) (hown : Row w size v n xs)
    (ad : Addr) (m c : Nat) (news : List Value) (hx : a.eval x = .slice (some ad) m c) (hl : news.length = m * size) (hm : 0 < m) (hnews : ∀ j u, news[j]? = some u → w.cell? (ad.add j) = some u) (h1 : ∀ u ∈ news, u.oneCell' = true)
    (h63 : n + m ≤ maxLen) (hbytes : (n + m) * bytes ≤ 140737488355328)
    (h : ∀ g' cap' w', Row w' size (.slice (some ⟨g', 0, none⟩) (n + m) cap') (n + m) (xs ++ news) → w.grownBy w' v.ownBlock → (v.ownBlock = some g' ∨ w.heap.size ≤ g') → wpList P ops Q rest (a.put o.dst (.slice (some ⟨g', 0, none⟩) (n + m) cap')) w') : wpList P ops Q (o :: rest) a w := by
  refine wpList_plain hgd fun K hK => ?_
  obtain ⟨v', w', hr, h2, h3, h4⟩ := run_append_row (P := P) w t o.type e i z size bytes ht hi hz hsize hby hzs hsz v n xs hown ad m c news hl hm hnews h1 h63 hbytes
  unfold Oper.wp execOp
  simp only [ho, resolve, invoke, builtin, Sem.run_bind, Sem.run_pure, Result.andThen_ok, List.map_toArray, List.map_cons, List.map_nil, hs, hx, hr]
  rcases h2.2 with ⟨_, hn⟩ | ⟨g', cap', rfl, _⟩
  · omega
  · refine hK _ _ (h g' cap' w' h2 h3 ?_)
    rcases h4 with h4 | ⟨k, h4, hk⟩
    · exact .inl h4.symm
    · simp [Value.ownBlock] at h4
      subst h4
      exact .inr hk

/-- The bytes as cells. -/
def cells8 (l : List UInt8) : List Value := l.map fun b => Value.int .u8 (b.toNat : Int)
theorem cells8_length (l : List UInt8) : (cells8 l).length = l.length := by simp [cells8]
theorem cells8_append (a b : List UInt8) : cells8 (a ++ b) = cells8 a ++ cells8 b := by simp [cells8]
theorem cells8_get (l : List UInt8) (j : Nat) (h : j < l.length) : (cells8 l)[j]? = some (.int .u8 (l[j].toNat : Int)) := by simp [cells8, h]

/-- '[]byte(s)'. -/
theorem run_bytes_row (w : World) (src dst e : TypeId) (s : ByteArray) (hs : P.underlying src = some .string) (hd : P.underlying dst = some (.slice e)) (he : P.underlying e = some (.int .u8)) (hm : s.size ≤ maxLen) :
    ∃ cap C fr, (convert src dst (.string s)).run P w = .ok (.slice (some ⟨w.heap.size, 0, none⟩) s.size cap) (w.drew.alloc (.cells C e fr)) ∧ Row (w.alloc (.cells C e fr)) 1 (.slice (some ⟨w.heap.size, 0, none⟩) s.size cap) s.size (cells8 s.data.toList) := by
  refine ⟨_, _, _, run_bytes_of_string w src dst e s hs hd he, ?_⟩
  have hge := grownCap_ge w s.size 0 e
  refine Row.made w 1 e _ _ _ _ _ (by simp [cells8]) ?_ hge (grownCap_le_maxLen w _ _ _ hm) (.inr (Nat.le_refl _)) ?_
  · simp [bytesRow]; omega
  · intro j u hu
    have hj : j < s.data.size := by
      have := (List.getElem?_eq_some_iff.1 hu).1
      simpa [cells8] using this
    rw [bytesRow_at s _ j hj]
    rw [cells8_get _ j (by simpa using hj)] at hu
    simpa using hu

/-- 'string(b)'. -/
theorem Row.back {w : World} {v : Value} {n : Nat} {l : List UInt8} (h : Row w 1 v n (cells8 l)) (src dst e : TypeId) (hs : P.underlying src = some (.slice e)) (he : P.underlying e = some (.int .u8)) (hd : P.underlying dst = some .string) :
    (convert src dst v).run P w = .ok (.string ⟨l.toArray⟩) w := by
  have hn : l.length = n := by have := h.1; simpa [cells8] using this
  rcases h.2 with ⟨rfl, rfl⟩ | ⟨g, cap, rfl, hg, hnc, hcm, hcell, hsp⟩
  · have : l = [] := List.eq_nil_of_length_eq_zero hn
    subst this
    rw [run_convert_bytes_string w src dst e _ _ _ hs he hd]
    simp [Conv.bytesToString]
    rfl
  · subst hn
    exact run_convert_bytes_back w src dst e ⟨g, 0, none⟩ cap l hs he hd fun j hj => by rw [add_plain]; exact hcell j _ (cells8_get l j hj)
end
end Go.Proofs.YtgfjgenkpfdofaaDoor
