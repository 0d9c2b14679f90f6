import Derived.WalkKit
import Derived.Laws.IdiomStrings
import Derived.Laws.IdiomCopy
import Derived.ArgAppend
import Derived.Test.YtieklnlbljejdaaGreatDoorRows
import Derived.WalkSpells
import Derived.WalkLawsBesides
import Derived.Handy
import Derived.Deep.QuietTactic
import Derived.BigQuiet
import Derived.Deep.RegionLaw
import Derived.Deep.RegionHeld3
import Derived.Deep.DrawnRows
import Derived.LaidLaws
import Derived.ChangeArms
import Derived.Lib.LaidTab
import Derived.Deep.DeepCutAuto
import Derived.Maps.RangeWalk
import Derived.ProofKit
import Derived.Lib.SmallJoins
import Derived.Deep.SlicePairs
import Derived.Deep.Slices
import Derived.Deep.WholeRow
import Derived.RegionTactic
import Derived.BigRegion
import Derived.DeepKeys4
import Derived.ShutString
import Derived.OpenShut
import Derived.ChangeOld
import Derived.Below
import Derived.Deep.DeepHandedRow
namespace Go.Proofs.YtieklnlbljejdaaGreatDoor
open Go.RowKit
theorem gg {α:Type} (a:α):∃x,a=x:=⟨a,rfl⟩
abbrev eE(w:World):=Below w.heap.size w
theorem iJ {P:Program} {fn:Func} {R:Ending->World->Prop} {a:Act} {w:World} (hf:fn.results= #[])(hd:a.defers=[])(hR:R (.returned (.tuple #[])) w):bodyPost P fn R .ret a w:=bodyPost_ret (results_none hf _ _ _) hd hR
theorem eh {p:Prop} (h:p:=by omega):p:=h
theorem eA {p:Prop} (h:p:=by decide):p:=h
theorem gq {p:Prop} (h:p:=by kernel_rfl):p:=h
theorem gY {p:Prop} (h:p:=by simp):p:=h
theorem je {p:Prop} (h:p:=by assumption):p:=h
abbrev af:= @if_neg
abbrev ag:= @World.block_lt_of_cell?
abbrev ai:= @if_pos
abbrev aj:= @World.cell?_of_block
abbrev aq:= @Below.heap_setCell
abbrev ar:= @World.cell?_alloc_mark
abbrev au:= @List.mem_singleton
abbrev av:= @Below.refl
abbrev aw:= @List.mem_append
abbrev ax:= @cell_of_row
abbrev ay:= @Array.getElem?_eq_some_iff
abbrev az:= @List.getElem?_eq_getElem
abbrev aA:= @List.length_append
abbrev aB:= @List.take_succ_eq_append_getElem
abbrev aC:= @List.append_nil
abbrev aD:= @List.cons.inj
abbrev aE:= @List.append_assoc
abbrev aF:= @bodyPost_ret
abbrev aG:= @List.getElem_mem
abbrev aH:= @AllReadyH.cons
abbrev aI:= @List.eq_nil_of_length_eq_zero
abbrev aJ:= @List.take_of_length_le
abbrev aK:= @List.getD_eq_getElem?_getD
abbrev aL:= @List.getElem?_eq_some_iff
abbrev aM:= @World.frozen?_of_block
abbrev aN:= @World.cell?_setCell_far
abbrev aO:= @AllReadyH.nil
abbrev aP:= @List.mem_cons
abbrev aQ:= @List.mem_range
abbrev aR:= @wpAnyH_ready
abbrev aS:= @List.drop_eq_getElem_cons
abbrev aT:= @List.mem_flatMap
abbrev aU:= @Below.heap_alloc
abbrev aV:= @Prod.ext
abbrev aW:= @World.cell?_setCell_other
abbrev aX:= @IntWalk.i64_in
abbrev aY:= @info_parts
abbrev aZ:= @heap_alloc_new
abbrev a8:= @List.all_eq_true
abbrev a9:= @List.drop_eq_nil_of_le
abbrev bg:= @Array.getElem?_eq_none
abbrev bh:= @DataW.trod_int
abbrev bk:= @List.filterMap_cons
abbrev bq:= @Array.getElem?_setIfInBounds
abbrev br:= @List.nodup_cons
abbrev bu:= @List.pairwise_append
abbrev bw:= @List.getElem?_append_right
abbrev bz:= @Below.setCell
abbrev bD:= @World.cell?_setCells_out
abbrev bE:= @frozen_of_row
abbrev bF:= @List.nodup_append
abbrev bG:= @List.getElem?_append_left
abbrev bH:= @List.foldl_cons
abbrev bI:= @List.filterMap_append
abbrev bJ:= @List.mem_map
abbrev bK:= @List.mem_of_getElem?
abbrev bL:= @World.cell?_setCells_in
abbrev bO:= @decide_eq_false_iff_not
abbrev bP:= @setCell_eq_setRow
abbrev bQ:= @Value.slice.inj
abbrev bR:= @List.sublist_cons_self
abbrev bS:= @Array.ext_getElem?
abbrev bT:= @rounds_succ
abbrev bU:= @run_loadVar_row
abbrev bV:= @zero_of_info
abbrev bW:= @List.nil_append
abbrev bX:= @List.nodup_range
abbrev bY:= @World.frozen?_setCells
abbrev bZ:= @List.range_succ
abbrev b9:= @List.flatMap_cons
abbrev cg:= @wp_loop_rounds
abbrev ch:= @Array.all_eq_true_iff_forall_mem
abbrev cr:= @List.take_length
abbrev ct:= @congrFun
abbrev cu:= @List.flatMap_append
abbrev cy:= @List.length_take_le
abbrev cz:= @wp_region_held_drew
abbrev cA:= @List.filter_append
abbrev cB:= @Maps.keyOf_int_inv
abbrev cC:= @List.pairwise_cons
abbrev cD:= @List.mem_filterMap
abbrev cE:= @setRow_heap
abbrev cF:= @List.getElem?_map
abbrev cG:= @IntWalk.wrap64_in
abbrev cH:= @Array.getElem?_modify
abbrev cJ:= @List.length_filter_le
abbrev cK:= @List.take_append_drop
abbrev cL:= @List.eq_nil_or_concat
abbrev cM:= @List.concat_eq_append
abbrev cN:= @Prod.ext_iff
abbrev cO:= @List.length_cons
abbrev cQ:= @List.mem_cons_of_mem
abbrev cR:= @Array.getElem?_append_left
abbrev cS:= @wpAnyH_done
abbrev cT:= @beq_eq_false_iff_ne
abbrev cU:= @List.map_append
abbrev cV:= @List.filterMap_eq_nil_iff
abbrev cW:= @World.frozen?_alloc_mark
abbrev cX:= @List.length_erase_of_mem
abbrev cY:= @List.nodup_nil
abbrev cZ:= @DataW.trod_struct
abbrev da:= @List.foldl_append
abbrev db:= @World.cell?_spot
abbrev dc:= @decide_eq_false
abbrev de:= @List.mem_erase_of_ne
abbrev dg:= @List.range_eq_range'
abbrev dh:= @List.mem_of_mem_take
abbrev di:= @List.getElem_of_mem
abbrev dj:= @ByteArray.toList_eq
abbrev dk:= @List.filter_sublist
abbrev dm:= @decide_eq_true
abbrev dq:= @grownCap_le_maxLen
abbrev dr:= @List.getElem?_drop
abbrev dt:= @Go.Deep.open_slice
abbrev du:= @Array.getD_eq_getD_getElem?
abbrev dv:= @List.Nodup.sublist
abbrev dw:= @DataW.trod_string
abbrev dx:= @Array.size_append
abbrev dy:= @List.pairwise_map
abbrev dA:= @List.length_range
abbrev dB:= @World.cell?_setCell_same'
abbrev dC:= @List.pairwise_iff_getElem
abbrev dD:= @Array.toList_inj
abbrev dE:= @Go.Deep.open_slice_pairs
abbrev dF:= @List.range'_succ
abbrev dG:= @List.length_filterMap_le
abbrev dH:= @List.length_drop
abbrev dI:= @List.Pairwise.imp_of_mem
abbrev dJ:= @Maps.has_false_of_atKey
abbrev dK:= @trodAll_cons_mk
abbrev dL:= @run_convert_bytes_back
abbrev dM:= @Maps.has_true_of_atKey
abbrev dN:= @List.length_pos_of_mem
abbrev dO:= @Prod.mk.inj
abbrev dP:= @World.setRow_alloc_new
abbrev dQ:= @List.append_eq_nil_iff
abbrev dR:= @List.getElem?_eq_none
abbrev dS:= @Array.size_map
abbrev dT:= @List.set_append_right
abbrev dU:= @beq_iff_eq
abbrev dV:= @DataW.trod_lt
abbrev dW:= @Iff.rfl
