import Derived.WalkKit
import Derived.Laws.IdiomStrings
import Derived.Laws.IdiomCopy
import Derived.ArgAppend
import Derived.Test.YtieklnlbljejdaaGreatDoorRows
import Derived.WalkSpells
import Derived.WalkLawsBesides
import Derived.Handy
import Derived.Deep.QuietTactic
import Derived.BigQuiet
import Derived.Deep.RegionLaw
import Derived.Deep.RegionHeld3
import Derived.Deep.DrawnRows
import Derived.LaidLaws
import Derived.ChangeArms
import Derived.Lib.LaidTab
import Derived.ProofKit
import Derived.Lib.SmallJoins
import Derived.Deep.SlicePairs
import Derived.Deep.DeepCutAuto
import Derived.Maps.RangeWalk
import Derived.Deep.Slices
import Derived.Deep.WholeRow
import Derived.RegionTactic
import Derived.BigRegion
import Derived.DeepKeys4
import Derived.ShutString
import Derived.OpenShut
import Derived.ChangeOld
import Derived.Below
import Derived.Deep.DeepHandedRow
namespace Go.Proofs.YtieklnlbljejdaaGreatDoor
open Go.RowKit
theorem gH {α:Type} (a:α):∃x,a=x:=⟨a,rfl⟩
abbrev eN(w:World):=Below w.heap.size w
theorem eE {p:Prop} (h:p:=by omega):p:=h
theorem eH {p:Prop} (h:p:=by decide):p:=h
theorem gT {p:Prop} (h:p:=by kernel_rfl):p:=h
theorem iC {p:Prop} (h:p:=by simp):p:=h
theorem jj {p:Prop} (h:p:=by assumption):p:=h
abbrev ae:= @if_neg
abbrev af:= @World.block_lt_of_cell?
abbrev ag:= @if_pos
abbrev ai:= @World.cell?_of_block
abbrev aj:= @bodyPost_ret
abbrev ak:= @Below.heap_setCell
abbrev aq:= @World.cell?_alloc_mark
abbrev ar:= @results_none
abbrev au:= @Below.refl
abbrev av:= @cell_of_row
abbrev aw:= @Array.getElem?_eq_some_iff
abbrev ax:= @List.take_succ_eq_append_getElem
abbrev ay:= @List.getElem?_eq_getElem
abbrev az:= @List.mem_singleton
abbrev aA:= @List.length_append
abbrev aB:= @AllReadyH.cons
abbrev aC:= @List.append_assoc
abbrev aD:= @List.mem_append
abbrev aE:= @List.getElem_mem
abbrev aF:= @AllReadyH.nil
abbrev aG:= @List.eq_nil_of_length_eq_zero
abbrev aH:= @List.getElem?_eq_some_iff
abbrev aJ:= @Tryz.underlying3
abbrev aK:= @List.take_of_length_le
abbrev aL:= @wpAnyH_ready
abbrev aM:= @List.append_nil
abbrev aN:= @World.frozen?_of_block
abbrev aO:= @World.cell?_setCell_far
abbrev aP:= @List.cons.inj
abbrev aQ:= @Tryz.underlying140
abbrev aR:= @List.drop_eq_getElem_cons
abbrev aS:= @IntWalk.i64_in
abbrev aT:= @Below.heap_alloc
abbrev aU:= @World.cell?_setCell_other
abbrev aV:= @heap_alloc_new
abbrev aW:= @info_parts
abbrev aX:= @List.drop_eq_nil_of_le
abbrev aY:= @List.getD_eq_getElem?_getD
abbrev aZ:= @Array.getElem?_eq_none
abbrev a6:= @DataW.trod_int
abbrev a7:= @List.mem_range
abbrev a8:= @Tryz.underlying9
abbrev a9:= @Tryz.underlying35
abbrev bg:= @List.pairwise_append
abbrev bh:= @Array.getElem?_setIfInBounds
abbrev bk:= @List.all_eq_true
abbrev bn:= @List.mem_cons
abbrev bq:= @Below.setCell
abbrev br:= @World.cell?_setCells_out
abbrev bu:= @Prod.ext
abbrev bw:= @frozen_of_row
abbrev bz:= @List.getElem?_append_right
abbrev bB:= @List.mem_flatMap
abbrev bC:= @List.mem_of_getElem?
abbrev bD:= @World.cell?_setCells_in
abbrev bE:= @decide_eq_false_iff_not
abbrev bF:= @setCell_eq_setRow
abbrev bG:= @decide_eq_false
abbrev bH:= @Value.slice.inj
abbrev bI:= @List.mem_map
abbrev bJ:= @List.sublist_cons_self
abbrev bK:= @Tryz.underlying5
abbrev bL:= @List.getElem?_append_left
abbrev bO:= @rounds_succ
abbrev bP:= @run_loadVar_row
abbrev bQ:= @List.foldl_cons
abbrev bR:= @List.nodup_cons
abbrev bS:= @List.nodup_range
abbrev bT:= @World.frozen?_setCells
abbrev bU:= @Tryz.underlying211
abbrev bV:= @Array.ext_getElem?
abbrev bW:= @Tryz.underlying256
abbrev bX:= @List.take_append_drop
abbrev bY:= @List.countP_singleton
abbrev bZ:= @wpAnyH_done
abbrev b9:= @wp_loop_rounds
abbrev cg:= @Array.all_eq_true_iff_forall_mem
abbrev ch:= @congrFun
abbrev cr:= @List.length_take_le
abbrev cy:= @ByteArray.toList_eq
abbrev cz:= @wp_region_held_drew
abbrev cA:= @List.filter_append
abbrev cB:= @Maps.keyOf_int_inv
abbrev cC:= @List.pairwise_cons
abbrev cD:= @setRow_heap
abbrev cE:= @IntWalk.wrap64_in
abbrev cF:= @List.getElem?_map
abbrev cG:= @List.nodup_append
abbrev cH:= @Array.getElem?_modify
abbrev cJ:= @zero_of_info
abbrev cK:= @List.length_filter_le
abbrev cL:= @Prod.ext_iff
abbrev cM:= @Array.getElem?_append_left
abbrev cN:= @beq_eq_false_iff_ne
abbrev cO:= @List.filterMap_cons
abbrev cQ:= @List.range_succ
abbrev cR:= @World.frozen?_alloc_mark
abbrev cT:= @List.countP_append
abbrev cV:= @List.flatMap_cons
abbrev cW:= @Tryz.underlying38
abbrev cX:= @DataW.trod_struct
abbrev cY:= @List.foldl_append
abbrev cZ:= @Tryz.underlying22
abbrev da:= @World.cell?_spot
abbrev db:= @Array.toList_inj
abbrev dc:= @List.take_length
abbrev de:= @List.length_cons
abbrev dg:= @List.filterMap_append
abbrev dh:= @List.map_append
abbrev di:= @beq_iff_eq
abbrev dj:= @List.mem_cons_of_mem
abbrev dk:= @List.range_eq_range'
abbrev dm:= @List.mem_of_mem_take
abbrev dq:= @List.flatMap_append
abbrev dr:= @List.getElem_of_mem
abbrev dt:= @List.filter_sublist
abbrev du:= @decide_eq_true
abbrev dv:= @List.nodup_nil
abbrev dw:= @grownCap_le_maxLen
abbrev dx:= @List.getElem?_drop
abbrev dy:= @Go.Deep.open_slice
abbrev dA:= @Array.getD_eq_getD_getElem?
abbrev dB:= @Tryz.underlying142
abbrev dC:= @Tryz.underlying188
abbrev dD:= @List.Nodup.sublist
abbrev dE:= @List.mem_filterMap
abbrev dF:= @DataW.trod_string
abbrev dG:= @List.pairwise_map
abbrev dH:= @Array.size_append
abbrev dI:= @Tryz.underlying53
abbrev dJ:= @List.take_sublist
abbrev dK:= @World.cell?_setCell_same'
abbrev dL:= @List.pairwise_iff_getElem
abbrev dM:= @Go.Deep.open_slice_pairs
abbrev dN:= @List.range'_succ
abbrev dO:= @List.length_drop
abbrev dP:= @Array.getElem?_replicate
abbrev dQ:= @List.Pairwise.imp_of_mem
abbrev dR:= @Maps.has_false_of_atKey
abbrev dS:= @List.length_eq_zero_iff
abbrev dT:= @trodAll_cons_mk
abbrev dU:= @run_convert_bytes_back
abbrev dV:= @Maps.has_true_of_atKey
abbrev dW:= @Prod.mk.inj
abbrev dX:= @World.setRow_alloc_new
abbrev dY:= @List.getElem?_eq_none
abbrev dZ:= @List.set_append_right
abbrev eh:= @Array.size_map
abbrev eu:= @Iff.rfl
abbrev ew:= @DataW.trod_lt
end Go.Proofs.YtieklnlbljejdaaGreatDoor
