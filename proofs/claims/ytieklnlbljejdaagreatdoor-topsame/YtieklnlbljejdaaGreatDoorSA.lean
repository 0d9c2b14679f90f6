import Derived.WalkKit
import Derived.Laws.IdiomStrings
import Derived.Laws.IdiomCopy
import Derived.ArgAppend
import Derived.Test.YtieklnlbljejdaaGreatDoorRows
import Derived.WalkSpells
import Derived.WalkLawsBesides
import Derived.Handy
import Derived.Deep.QuietTactic
import Derived.BigQuiet
import Derived.Deep.RegionLaw
import Derived.Deep.RegionHeld3
import Derived.Deep.DrawnRows
import Derived.LaidLaws
import Derived.ChangeArms
import Derived.Lib.LaidTab
import Derived.ProofKit
import Derived.Lib.SmallJoins
import Derived.Deep.SlicePairs
import Derived.Deep.DeepCutAuto
import Derived.Maps.RangeWalk
import Derived.Deep.Slices
import Derived.Deep.WholeRow
import Derived.RegionTactic
import Derived.BigRegion
import Derived.DeepKeys4
import Derived.ShutString
import Derived.OpenShut
import Derived.ChangeOld
import Derived.Below
import Derived.Deep.DeepHandedRow
namespace Go.Proofs.YtieklnlbljejdaaGreatDoor
open Go.RowKit
theorem fq {α:Type} (a:α):∃x,a=x:=⟨a,rfl⟩
abbrev eH(w:World):=Below w.heap.size w
theorem iX {P:Program} {fn:Func} {R:Ending->World->Prop} {a:Act} {w:World} (hf:fn.results= #[])(hd:a.defers=[])(hR:R (.returned (.tuple #[])) w):bodyPost P fn R .ret a w:=bodyPost_ret (results_none hf _ _ _) hd hR
theorem eB {p:Prop} (h:p:=by omega):p:=h
theorem eF {p:Prop} (h:p:=by decide):p:=h
theorem ga {p:Prop} (h:p:=by kernel_rfl):p:=h
theorem ik {p:Prop} (h:p:=by simp):p:=h
theorem jr {p:Prop} (h:p:=by assumption):p:=h
abbrev af:= @if_neg
abbrev ag:= @World.block_lt_of_cell?
abbrev ai:= @if_pos
abbrev aj:= @World.cell?_of_block
abbrev ak:= @World.cell?_alloc_mark
abbrev aq:= @Below.heap_setCell
abbrev ar:= @List.mem_singleton
abbrev au:= @Below.refl
abbrev av:= @List.mem_append
abbrev aw:= @List.getElem?_eq_getElem
abbrev ax:= @cell_of_row
abbrev ay:= @Array.getElem?_eq_some_iff
abbrev az:= @List.take_succ_eq_append_getElem
abbrev aA:= @List.length_append
abbrev aB:= @List.append_nil
abbrev aC:= @List.cons.inj
abbrev aD:= @List.append_assoc
abbrev aE:= @bodyPost_ret
abbrev aF:= @List.getElem_mem
abbrev aG:= @List.getD_eq_getElem?_getD
abbrev aH:= @List.take_of_length_le
abbrev aI:= @AllReadyH.cons
abbrev aJ:= @List.eq_nil_of_length_eq_zero
abbrev aK:= @List.getElem?_eq_some_iff
abbrev aL:= @World.frozen?_of_block
abbrev aM:= @World.cell?_setCell_far
abbrev aN:= @List.mem_range
abbrev aO:= @AllReadyH.nil
abbrev aP:= @List.mem_cons
abbrev aQ:= @wpAnyH_ready
abbrev aR:= @List.drop_eq_getElem_cons
abbrev aS:= @IntWalk.i64_in
abbrev aT:= @List.mem_flatMap
abbrev aU:= @Prod.ext
abbrev aV:= @Below.heap_alloc
abbrev aW:= @World.cell?_setCell_other
abbrev aX:= @info_parts
abbrev aY:= @heap_alloc_new
abbrev aZ:= @List.all_eq_true
abbrev bg:= @List.drop_eq_nil_of_le
abbrev bh:= @Array.getElem?_eq_none
abbrev bk:= @decide_eq_false_iff_not
abbrev bq:= @DataW.trod_int
abbrev br:= @List.filterMap_cons
abbrev bu:= @Array.getElem?_setIfInBounds
abbrev bw:= @List.nodup_cons
abbrev bz:= @List.pairwise_append
abbrev bB:= @List.getElem?_append_right
abbrev bD:= @Below.setCell
abbrev bE:= @World.cell?_setCells_out
abbrev bF:= @frozen_of_row
abbrev bG:= @List.nodup_append
abbrev bH:= @List.getElem?_append_left
abbrev bI:= @List.foldl_cons
abbrev bJ:= @List.filterMap_append
abbrev bK:= @List.mem_map
abbrev bL:= @List.mem_of_getElem?
abbrev bO:= @World.cell?_setCells_in
abbrev bP:= @setCell_eq_setRow
abbrev bQ:= @Value.slice.inj
abbrev bR:= @List.sublist_cons_self
abbrev bS:= @Array.ext_getElem?
abbrev bT:= @rounds_succ
abbrev bU:= @List.nil_append
abbrev bV:= @run_loadVar_row
abbrev bW:= @zero_of_info
abbrev bX:= @List.nodup_range
abbrev bY:= @World.frozen?_setCells
abbrev bZ:= @List.mem_filterMap
abbrev cg:= @List.range_succ
abbrev ch:= @List.flatMap_cons
abbrev cr:= @wp_loop_rounds
abbrev ct:= @Array.all_eq_true_iff_forall_mem
abbrev cu:= @List.take_length
abbrev cy:= @congrFun
abbrev cz:= @beq_eq_false_iff_ne
abbrev cA:= @List.flatMap_append
abbrev cB:= @List.length_take_le
abbrev cC:= @wp_region_held_drew
abbrev cD:= @List.filter_append
abbrev cE:= @Maps.keyOf_int_inv
abbrev cF:= @List.pairwise_cons
abbrev cG:= @setRow_heap
abbrev cH:= @IntWalk.wrap64_in
abbrev cJ:= @List.getElem?_map
abbrev cK:= @List.length_filter_le
abbrev cL:= @List.take_append_drop
abbrev cM:= @List.eq_nil_or_concat
abbrev cN:= @List.concat_eq_append
abbrev cO:= @Array.getElem?_modify
abbrev cQ:= @decide_eq_true
abbrev cR:= @Prod.ext_iff
abbrev cS:= @List.length_cons
abbrev cT:= @List.mem_cons_of_mem
abbrev cU:= @Array.getElem?_append_left
abbrev cV:= @wpAnyH_done
abbrev cW:= @List.map_append
abbrev cX:= @List.filterMap_eq_nil_iff
abbrev cY:= @World.frozen?_alloc_mark
abbrev cZ:= @List.length_erase_of_mem
abbrev da:= @List.nodup_nil
abbrev db:= @List.foldl_append
abbrev dc:= @DataW.trod_struct
abbrev de:= @World.cell?_spot
abbrev dg:= @List.mem_erase_of_ne
abbrev dh:= @decide_eq_false
abbrev di:= @List.range_eq_range'
abbrev dj:= @List.mem_of_mem_take
abbrev dk:= @List.getElem_of_mem
abbrev dm:= @ByteArray.toList_eq
abbrev dq:= @List.filter_sublist
abbrev dr:= @grownCap_le_maxLen
abbrev dt:= @List.getElem?_drop
abbrev du:= @Array.getD_eq_getD_getElem?
abbrev dv:= @Go.Deep.open_slice
abbrev dw:= @List.Nodup.sublist
abbrev dx:= @DataW.trod_string
abbrev dy:= @List.pairwise_map
abbrev dA:= @List.length_range
abbrev dB:= @Array.size_append
abbrev dC:= @World.cell?_setCell_same'
abbrev dD:= @List.pairwise_iff_getElem
abbrev dE:= @List.mem_of_find?_eq_some
abbrev dF:= @Go.Deep.open_slice_pairs
abbrev dG:= @Array.toList_inj
abbrev dH:= @List.range'_succ
abbrev dI:= @List.length_drop
abbrev dJ:= @List.length_filterMap_le
abbrev dK:= @List.Pairwise.imp_of_mem
abbrev dL:= @Maps.has_false_of_atKey
abbrev dM:= @trodAll_cons_mk
abbrev dN:= @run_convert_bytes_back
abbrev dO:= @Maps.has_true_of_atKey
abbrev dP:= @List.length_pos_of_mem
abbrev dQ:= @Prod.mk.inj
abbrev dR:= @World.setRow_alloc_new
abbrev dS:= @List.append_eq_nil_iff
abbrev dT:= @List.getElem?_eq_none
abbrev dU:= @List.set_append_right
abbrev dV:= @Array.size_map
abbrev dW:= @bne_iff_ne
abbrev dX:= @beq_iff_eq
abbrev dY:= @DataW.trod_lt
abbrev dZ:= @Iff.rfl
