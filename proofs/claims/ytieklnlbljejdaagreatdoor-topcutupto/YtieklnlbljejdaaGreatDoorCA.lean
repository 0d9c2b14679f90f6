import Derived.WalkKit
import Derived.Laws.IdiomStrings
import Derived.Laws.IdiomCopy
import Derived.ArgAppend
import Derived.Test.YtieklnlbljejdaaGreatDoorRows
import Derived.WalkSpells
import Derived.WalkLawsBesides
import Derived.Handy
import Derived.Deep.QuietTactic
import Derived.BigQuiet
import Derived.Deep.RegionLaw
import Derived.Deep.RegionHeld3
import Derived.Deep.DrawnRows
import Derived.LaidLaws
import Derived.ChangeArms
import Derived.Lib.LaidTab
import Derived.Deep.DeepCutAuto
import Derived.Maps.RangeWalk
import Derived.ProofKit
import Derived.Lib.SmallJoins
import Derived.Deep.SlicePairs
import Derived.Deep.Slices
import Derived.Deep.WholeRow
import Derived.RegionTactic
import Derived.BigRegion
import Derived.DeepKeys4
import Derived.ShutString
import Derived.OpenShut
import Derived.ChangeOld
import Derived.Below
import Derived.Deep.DeepHandedRow
namespace Go.Proofs.YtieklnlbljejdaaGreatDoor
open Go.RowKit
theorem gg {α:Type} (a:α):∃x,a=x:=⟨a,rfl⟩
abbrev eB(w:World):=Below w.heap.size w
theorem iK {P:Program} {fn:Func} {R:Ending->World->Prop} {a:Act} {w:World} (hf:fn.results= #[])(hd:a.defers=[])(hR:R (.returned (.tuple #[])) w):bodyPost P fn R .ret a w:=bodyPost_ret (results_none hf _ _ _) hd hR
theorem dZ {p:Prop} (h:p:=by omega):p:=h
theorem ew {p:Prop} (h:p:=by decide):p:=h
theorem gS {p:Prop} (h:p:=by kernel_rfl):p:=h
theorem gU {p:Prop} (h:p:=by simp):p:=h
theorem je {p:Prop} (h:p:=by assumption):p:=h
abbrev af:= @if_neg
abbrev ag:= @World.block_lt_of_cell?
abbrev ai:= @if_pos
abbrev aj:= @World.cell?_of_block
abbrev ak:= @Below.heap_setCell
abbrev aq:= @World.cell?_alloc_mark
abbrev ar:= @List.mem_singleton
abbrev au:= @Below.refl
abbrev av:= @List.mem_append
abbrev aw:= @cell_of_row
abbrev ax:= @Array.getElem?_eq_some_iff
abbrev ay:= @List.getElem?_eq_getElem
abbrev az:= @List.length_append
abbrev aA:= @List.take_succ_eq_append_getElem
abbrev aB:= @List.append_nil
abbrev aC:= @List.cons.inj
abbrev aD:= @List.append_assoc
abbrev aE:= @bodyPost_ret
abbrev aF:= @List.getElem_mem
abbrev aG:= @AllReadyH.cons
abbrev aH:= @List.eq_nil_of_length_eq_zero
abbrev aI:= @List.take_of_length_le
abbrev aJ:= @List.getD_eq_getElem?_getD
abbrev aK:= @List.getElem?_eq_some_iff
abbrev aL:= @World.frozen?_of_block
abbrev aM:= @World.cell?_setCell_far
abbrev aN:= @AllReadyH.nil
abbrev aO:= @List.mem_cons
abbrev aP:= @List.mem_range
abbrev aQ:= @wpAnyH_ready
abbrev aR:= @List.drop_eq_getElem_cons
abbrev aS:= @IntWalk.i64_in
abbrev aT:= @List.mem_flatMap
abbrev aU:= @Below.heap_alloc
abbrev aV:= @Prod.ext
abbrev aW:= @info_parts
abbrev aX:= @World.cell?_setCell_other
abbrev aY:= @heap_alloc_new
abbrev aZ:= @List.all_eq_true
abbrev a8:= @List.drop_eq_nil_of_le
abbrev a9:= @Array.getElem?_eq_none
abbrev bg:= @DataW.trod_int
abbrev bh:= @List.filterMap_cons
abbrev bk:= @Array.getElem?_setIfInBounds
abbrev bq:= @List.nodup_cons
abbrev br:= @List.getElem?_append_right
abbrev bu:= @List.pairwise_append
abbrev bw:= @Below.setCell
abbrev bz:= @List.getElem?_append_left
abbrev bB:= @World.cell?_setCells_out
abbrev bD:= @frozen_of_row
abbrev bE:= @List.nodup_append
abbrev bF:= @List.foldl_cons
abbrev bG:= @List.filterMap_append
abbrev bH:= @List.mem_map
abbrev bI:= @List.mem_of_getElem?
abbrev bJ:= @World.cell?_setCells_in
abbrev bK:= @decide_eq_false_iff_not
abbrev bL:= @setCell_eq_setRow
abbrev bO:= @Value.slice.inj
abbrev bP:= @List.sublist_cons_self
abbrev bQ:= @Array.ext_getElem?
abbrev bR:= @rounds_succ
abbrev bS:= @run_loadVar_row
abbrev bT:= @zero_of_info
abbrev bU:= @List.nil_append
abbrev bV:= @List.range_succ
abbrev bW:= @List.flatMap_append
abbrev bX:= @decide_eq_true
abbrev bY:= @List.nodup_range
abbrev bZ:= @World.frozen?_setCells
abbrev b9:= @decide_eq_false
abbrev cg:= @List.flatMap_cons
abbrev ch:= @wp_loop_rounds
abbrev cr:= @Array.all_eq_true_iff_forall_mem
abbrev ct:= @List.take_length
abbrev cu:= @congrFun
abbrev cy:= @Prod.ext_iff
abbrev cz:= @List.length_take_le
abbrev cA:= @wp_region_held_drew
abbrev cB:= @List.filter_append
abbrev cC:= @Maps.keyOf_int_inv
abbrev cD:= @List.pairwise_cons
abbrev cE:= @List.mem_filterMap
abbrev cF:= @setRow_heap
abbrev cG:= @IntWalk.wrap64_in
abbrev cH:= @List.getElem?_map
abbrev cJ:= @Array.getElem?_modify
abbrev cK:= @List.length_filter_le
abbrev cL:= @List.take_append_drop
abbrev cM:= @List.eq_nil_or_concat
abbrev cN:= @List.concat_eq_append
abbrev cO:= @List.mem_cons_of_mem
abbrev cQ:= @List.length_cons
abbrev cR:= @Array.getElem?_append_left
abbrev cS:= @wpAnyH_done
abbrev cT:= @beq_eq_false_iff_ne
abbrev cU:= @List.map_append
abbrev cV:= @List.filterMap_eq_nil_iff
abbrev cW:= @World.frozen?_alloc_mark
abbrev cX:= @Go.Deep.open_slice
abbrev cY:= @List.length_erase_of_mem
abbrev cZ:= @List.nodup_nil
abbrev da:= @DataW.trod_struct
abbrev db:= @List.foldl_append
abbrev dc:= @List.length_range
abbrev de:= @World.cell?_spot
abbrev dg:= @List.mem_erase_of_ne
abbrev dh:= @List.range_eq_range'
abbrev di:= @List.mem_of_mem_take
abbrev dj:= @List.getElem_of_mem
abbrev dk:= @ByteArray.toList_eq
abbrev dm:= @List.filter_sublist
abbrev dq:= @grownCap_le_maxLen
abbrev dr:= @List.getElem?_drop
abbrev dt:= @Array.getD_eq_getD_getElem?
abbrev du:= @List.Nodup.sublist
abbrev dv:= @DataW.trod_string
abbrev dw:= @Array.size_append
abbrev dx:= @List.pairwise_map
abbrev dy:= @World.cell?_setCell_same'
abbrev dA:= @List.pairwise_iff_getElem
abbrev dB:= @IntKind.wrap_i64
abbrev dC:= @Array.toList_inj
abbrev dD:= @Go.Deep.open_slice_pairs
abbrev dE:= @List.range'_succ
abbrev dF:= @List.length_filterMap_le
abbrev dG:= @List.length_drop
abbrev dH:= @List.Pairwise.imp_of_mem
abbrev dI:= @Maps.has_false_of_atKey
abbrev dJ:= @trodAll_cons_mk
abbrev dK:= @run_convert_bytes_back
abbrev dL:= @Maps.has_true_of_atKey
abbrev dM:= @List.length_pos_of_mem
abbrev dN:= @Prod.mk.inj
abbrev dO:= @World.setRow_alloc_new
abbrev dP:= @List.append_eq_nil_iff
abbrev dQ:= @List.getElem?_eq_none
abbrev dR:= @Array.size_map
abbrev dS:= @List.set_append_right
abbrev dT:= @beq_iff_eq
abbrev dU:= @DataW.trod_lt
abbrev dV:= @Iff.rfl
