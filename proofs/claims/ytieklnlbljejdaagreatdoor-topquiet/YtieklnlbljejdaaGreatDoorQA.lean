import Derived.WalkKit
import Derived.Laws.IdiomStrings
import Derived.Laws.IdiomCopy
import Derived.ArgAppend
import Derived.Test.YtieklnlbljejdaaGreatDoorRows
import Derived.WalkSpells
import Derived.WalkLawsBesides
import Derived.Handy
import Derived.Deep.QuietTactic
import Derived.BigQuiet
import Derived.Deep.RegionLaw
import Derived.Deep.RegionHeld3
import Derived.Deep.DrawnRows
import Derived.LaidLaws
import Derived.ChangeArms
import Derived.Lib.LaidTab
import Derived.Deep.DeepCutAuto
import Derived.Maps.RangeWalk
import Derived.ProofKit
import Derived.Lib.SmallJoins
import Derived.Deep.SlicePairs
import Derived.Deep.Slices
import Derived.Deep.WholeRow
import Derived.RegionTactic
import Derived.BigRegion
import Derived.DeepKeys4
import Derived.ShutString
import Derived.OpenShut
import Derived.ChangeOld
import Derived.Below
import Derived.Deep.DeepHandedRow
namespace Go.Proofs.YtieklnlbljejdaaGreatDoor
open Go.RowKit
theorem fW {α:Type} (a:α):∃x,a=x:=⟨a,rfl⟩
abbrev eh(w:World):=Below w.heap.size w
theorem iC {P:Program} {fn:Func} {R:Ending->World->Prop} {a:Act} {w:World} (hf:fn.results= #[])(hd:a.defers=[])(hR:R (.returned (.tuple #[])) w):bodyPost P fn R .ret a w:=bodyPost_ret (results_none hf _ _ _) hd hR
theorem dU {p:Prop} (h:p:=by omega):p:=h
theorem dX {p:Prop} (h:p:=by decide):p:=h
theorem gL {p:Prop} (h:p:=by kernel_rfl):p:=h
theorem gO {p:Prop} (h:p:=by simp):p:=h
theorem iX {p:Prop} (h:p:=by assumption):p:=h
abbrev ae:= @if_neg
abbrev af:= @World.block_lt_of_cell?
abbrev ag:= @if_pos
abbrev ai:= @World.cell?_of_block
abbrev aj:= @World.cell?_alloc_mark
abbrev aq:= @Below.heap_setCell
abbrev ar:= @List.mem_singleton
abbrev au:= @Below.refl
abbrev av:= @List.mem_append
abbrev aw:= @Array.getElem?_eq_some_iff
abbrev ax:= @cell_of_row
abbrev ay:= @List.take_succ_eq_append_getElem
abbrev az:= @List.length_append
abbrev aA:= @List.getElem?_eq_getElem
abbrev aB:= @List.cons.inj
abbrev aC:= @List.append_nil
abbrev aD:= @List.append_assoc
abbrev aE:= @bodyPost_ret
abbrev aF:= @AllReadyH.cons
abbrev aG:= @List.take_of_length_le
abbrev aH:= @List.eq_nil_of_length_eq_zero
abbrev aI:= @List.getElem?_eq_some_iff
abbrev aJ:= @World.frozen?_of_block
abbrev aK:= @List.getElem_mem
abbrev aL:= @World.cell?_setCell_far
abbrev aM:= @AllReadyH.nil
abbrev aN:= @wpAnyH_ready
abbrev aO:= @List.drop_eq_getElem_cons
abbrev aP:= @IntWalk.i64_in
abbrev aQ:= @List.mem_cons
abbrev aR:= @Prod.ext
abbrev aS:= @List.mem_range
abbrev aT:= @Below.heap_alloc
abbrev aU:= @World.cell?_setCell_other
abbrev aV:= @List.mem_flatMap
abbrev aW:= @heap_alloc_new
abbrev aX:= @List.all_eq_true
abbrev aY:= @info_parts
abbrev aZ:= @List.drop_eq_nil_of_le
abbrev a6:= @List.getD_eq_getElem?_getD
abbrev a7:= @decide_eq_false_iff_not
abbrev a8:= @Array.getElem?_eq_none
abbrev bg:= @DataW.trod_int
abbrev bh:= @List.filterMap_cons
abbrev bk:= @List.pairwise_append
abbrev bn:= @Array.getElem?_setIfInBounds
abbrev bq:= @Below.setCell
abbrev br:= @World.cell?_setCells_out
abbrev bu:= @frozen_of_row
abbrev bw:= @List.getElem?_append_right
abbrev bz:= @List.mem_of_getElem?
abbrev bC:= @World.cell?_setCells_in
abbrev bD:= @setCell_eq_setRow
abbrev bE:= @List.nodup_append
abbrev bF:= @List.nil_append
abbrev bG:= @Value.slice.inj
abbrev bH:= @List.mem_map
abbrev bI:= @List.sublist_cons_self
abbrev bJ:= @List.getElem?_append_left
abbrev bK:= @rounds_succ
abbrev bL:= @run_loadVar_row
abbrev bO:= @List.foldl_cons
abbrev bP:= @List.nodup_cons
abbrev bQ:= @List.nodup_range
abbrev bR:= @World.frozen?_setCells
abbrev bS:= @Array.ext_getElem?
abbrev bT:= @List.flatMap_cons
abbrev bU:= @List.getElem?_map
abbrev bV:= @wp_loop_rounds
abbrev bW:= @Array.all_eq_true_iff_forall_mem
abbrev bX:= @List.take_length
abbrev bY:= @congrFun
abbrev bZ:= @List.flatMap_append
abbrev b9:= @List.length_take_le
abbrev cg:= @wp_region_held_drew
abbrev ch:= @List.filter_append
abbrev cr:= @Maps.keyOf_int_inv
abbrev ct:= @List.pairwise_cons
abbrev cu:= @List.map_append
abbrev cy:= @List.range_succ
abbrev cz:= @setRow_heap
abbrev cA:= @IntWalk.wrap64_in
abbrev cB:= @List.take_append_drop
abbrev cC:= @Array.getElem?_modify
abbrev cD:= @zero_of_info
abbrev cE:= @List.length_filter_le
abbrev cF:= @List.filterMap_append
abbrev cG:= @Prod.ext_iff
abbrev cH:= @List.length_cons
abbrev cJ:= @Array.getElem?_append_left
abbrev cK:= @wpAnyH_done
abbrev cL:= @beq_eq_false_iff_ne
abbrev cM:= @List.filterMap_eq_nil_iff
abbrev cN:= @World.frozen?_alloc_mark
abbrev cO:= @List.mem_filterMap
abbrev cP:= @DataW.trod_struct
abbrev cQ:= @List.foldl_append
abbrev cR:= @World.cell?_spot
abbrev cS:= @List.mem_cons_of_mem
abbrev cT:= @List.range_eq_range'
abbrev cU:= @List.mem_of_mem_take
abbrev cV:= @List.getElem_of_mem
abbrev cW:= @ByteArray.toList_eq
abbrev cX:= @List.filter_sublist
abbrev cY:= @List.nodup_nil
abbrev cZ:= @grownCap_le_maxLen
abbrev db:= @List.getElem?_drop
abbrev de:= @Go.Deep.open_slice
abbrev dg:= @Array.getD_eq_getD_getElem?
abbrev dh:= @List.Nodup.sublist
abbrev di:= @DataW.trod_string
abbrev dj:= @List.pairwise_map
abbrev dk:= @Array.size_append
abbrev dm:= @World.cell?_setCell_same'
abbrev dq:= @Array.getElem?_eq_getElem
abbrev dr:= @List.pairwise_iff_getElem
abbrev dt:= @Array.toList_inj
abbrev du:= @Go.Deep.open_slice_pairs
abbrev dv:= @List.range'_succ
abbrev dw:= @List.length_drop
abbrev dx:= @List.Pairwise.imp_of_mem
abbrev dy:= @Maps.has_false_of_atKey
abbrev dA:= @decide_eq_false
abbrev dB:= @trodAll_cons_mk
abbrev dC:= @run_convert_bytes_back
abbrev dD:= @Maps.has_true_of_atKey
abbrev dF:= @Prod.mk.inj
abbrev dG:= @World.setRow_alloc_new
abbrev dH:= @List.append_eq_nil_iff
abbrev dI:= @List.getElem?_eq_none
abbrev dJ:= @List.set_append_right
abbrev dK:= @Array.size_map
abbrev dL:= @decide_eq_true
abbrev dM:= @bne_iff_ne
abbrev dN:= @beq_iff_eq
abbrev dO:= @DataW.trod_lt
abbrev dP:= @Iff.rfl
