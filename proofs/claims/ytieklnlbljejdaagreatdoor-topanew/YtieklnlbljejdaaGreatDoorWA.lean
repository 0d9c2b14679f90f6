import Derived.WalkKit
import Derived.Laws.IdiomStrings
import Derived.Laws.IdiomCopy
import Derived.ArgAppend
import Derived.Test.YtieklnlbljejdaaGreatDoorRows
import Derived.WalkSpells
import Derived.WalkLawsBesides
import Derived.Handy
import Derived.Deep.QuietTactic
import Derived.BigQuiet
import Derived.Deep.RegionLaw
import Derived.Deep.RegionHeld3
import Derived.Deep.DrawnRows
import Derived.LaidLaws
import Derived.ChangeArms
import Derived.Lib.LaidTab
import Derived.Deep.DeepCutAuto
import Derived.Maps.RangeWalk
import Derived.ProofKit
import Derived.Lib.SmallJoins
import Derived.Deep.SlicePairs
import Derived.RegionTactic
import Derived.BigRegion
import Derived.Deep.WholeRow
import Derived.Deep.Slices
import Derived.DeepKeys4
import Derived.ShutString
import Derived.OpenShut
import Derived.ChangeOld
import Derived.Below
import Derived.Deep.DeepHandedRow
namespace Go.Proofs.YtieklnlbljejdaaGreatDoor
open Go.RowKit
theorem gq {α:Type} (a:α):∃x,a=x:=⟨a,rfl⟩
abbrev eE(w:World):=Below w.heap.size w
theorem iM {P:Program} {fn:Func} {R:Ending->World->Prop} {a:Act} {w:World} (hf:fn.results= #[])(hd:a.defers=[])(hR:R (.returned (.tuple #[])) w):bodyPost P fn R .ret a w:=bodyPost_ret (results_none hf _ _ _) hd hR
theorem eh {p:Prop} (h:p:=by omega):p:=h
theorem eA {p:Prop} (h:p:=by decide):p:=h
theorem gX {p:Prop} (h:p:=by kernel_rfl):p:=h
theorem gZ {p:Prop} (h:p:=by simp):p:=h
theorem jf {p:Prop} (h:p:=by assumption):p:=h
abbrev af:= @if_neg
abbrev ag:= @World.block_lt_of_cell?
abbrev ai:= @if_pos
abbrev aj:= @World.cell?_of_block
abbrev ak:= @Below.heap_setCell
abbrev aq:= @World.cell?_alloc_mark
abbrev ar:= @List.mem_singleton
abbrev au:= @Below.refl
abbrev av:= @List.mem_append
abbrev aw:= @cell_of_row
abbrev ax:= @Array.getElem?_eq_some_iff
abbrev ay:= @List.getElem?_eq_getElem
abbrev az:= @List.length_append
abbrev aA:= @List.take_succ_eq_append_getElem
abbrev aB:= @List.append_nil
abbrev aC:= @List.cons.inj
abbrev aD:= @List.append_assoc
abbrev aE:= @bodyPost_ret
abbrev aF:= @List.getElem_mem
abbrev aG:= @AllReadyH.cons
abbrev aH:= @List.eq_nil_of_length_eq_zero
abbrev aI:= @List.take_of_length_le
abbrev aJ:= @List.getD_eq_getElem?_getD
abbrev aK:= @List.getElem?_eq_some_iff
abbrev aL:= @World.frozen?_of_block
abbrev aM:= @World.cell?_setCell_far
abbrev aN:= @AllReadyH.nil
abbrev aO:= @List.mem_cons
abbrev aP:= @List.mem_range
abbrev aQ:= @IntWalk.i64_in
abbrev aR:= @wpAnyH_ready
abbrev aS:= @List.drop_eq_getElem_cons
abbrev aT:= @List.mem_flatMap
abbrev aU:= @Below.heap_alloc
abbrev aV:= @Prod.ext
abbrev aW:= @World.cell?_setCell_other
abbrev aX:= @info_parts
abbrev aY:= @heap_alloc_new
abbrev aZ:= @List.all_eq_true
abbrev a8:= @List.drop_eq_nil_of_le
abbrev a9:= @Array.getElem?_eq_none
abbrev bg:= @DataW.trod_int
abbrev bh:= @List.filterMap_cons
abbrev bk:= @Array.getElem?_setIfInBounds
abbrev bq:= @List.nodup_cons
abbrev br:= @List.pairwise_append
abbrev bu:= @List.getElem?_append_right
abbrev bw:= @Below.setCell
abbrev bz:= @World.cell?_setCells_out
abbrev bB:= @frozen_of_row
abbrev bD:= @List.nodup_append
abbrev bE:= @List.getElem?_append_left
abbrev bF:= @List.foldl_cons
abbrev bG:= @List.filterMap_append
abbrev bH:= @List.mem_map
abbrev bI:= @List.mem_of_getElem?
abbrev bJ:= @World.cell?_setCells_in
abbrev bK:= @decide_eq_false_iff_not
abbrev bL:= @setCell_eq_setRow
abbrev bO:= @Value.slice.inj
abbrev bP:= @List.sublist_cons_self
abbrev bQ:= @Array.ext_getElem?
abbrev bR:= @rounds_succ
abbrev bS:= @zero_of_info
abbrev bT:= @List.nil_append
abbrev bU:= @run_loadVar_row
abbrev bV:= @List.nodup_range
abbrev bW:= @World.frozen?_setCells
abbrev bX:= @List.range_succ
abbrev bY:= @List.flatMap_cons
abbrev bZ:= @wp_loop_rounds
abbrev b9:= @Array.all_eq_true_iff_forall_mem
abbrev cg:= @List.take_length
abbrev ch:= @congrFun
abbrev cr:= @List.flatMap_append
abbrev ct:= @List.length_take_le
abbrev cu:= @wp_region_held_drew
abbrev cy:= @List.filter_append
abbrev cz:= @Maps.keyOf_int_inv
abbrev cA:= @List.pairwise_cons
abbrev cB:= @List.mem_filterMap
abbrev cC:= @setRow_heap
abbrev cD:= @IntWalk.wrap64_in
abbrev cE:= @List.getElem?_map
abbrev cF:= @List.take_append_drop
abbrev cG:= @List.eq_nil_or_concat
abbrev cH:= @List.concat_eq_append
abbrev cJ:= @Array.getElem?_modify
abbrev cK:= @List.length_filter_le
abbrev cL:= @Prod.ext_iff
abbrev cM:= @List.mem_cons_of_mem
abbrev cN:= @List.length_cons
abbrev cO:= @Array.getElem?_append_left
abbrev cQ:= @wpAnyH_done
abbrev cR:= @beq_eq_false_iff_ne
abbrev cS:= @List.map_append
abbrev cT:= @List.filterMap_eq_nil_iff
abbrev cU:= @World.frozen?_alloc_mark
abbrev cV:= @List.length_erase_of_mem
abbrev cW:= @List.nodup_nil
abbrev cX:= @List.foldl_append
abbrev cY:= @DataW.trod_struct
abbrev cZ:= @World.cell?_spot
abbrev da:= @decide_eq_false
abbrev db:= @List.mem_erase_of_ne
abbrev dc:= @List.range_eq_range'
abbrev de:= @List.mem_of_mem_take
abbrev dg:= @trodAll_cons_mk
abbrev dh:= @List.getElem_of_mem
abbrev di:= @ByteArray.toList_eq
abbrev dj:= @List.filter_sublist
abbrev dk:= @decide_eq_true
abbrev dm:= @grownCap_le_maxLen
abbrev dq:= @List.getElem?_drop
abbrev dr:= @Array.getD_eq_getD_getElem?
abbrev dt:= @Go.Deep.open_slice
abbrev du:= @List.Nodup.sublist
abbrev dv:= @DataW.trod_lt
abbrev dw:= @DataW.trod_string
abbrev dx:= @Array.size_append
abbrev dy:= @List.length_range
abbrev dA:= @List.pairwise_map
abbrev dB:= @World.cell?_setCell_same'
abbrev dC:= @List.pairwise_iff_getElem
abbrev dD:= @IntKind.wrap_i64
abbrev dE:= @Array.toList_inj
abbrev dF:= @Go.Deep.open_slice_pairs
abbrev dG:= @List.range'_succ
abbrev dH:= @List.length_filterMap_le
abbrev dI:= @List.length_drop
abbrev dJ:= @List.Pairwise.imp_of_mem
abbrev dK:= @Maps.has_false_of_atKey
abbrev dL:= @run_convert_bytes_back
abbrev dM:= @Maps.has_true_of_atKey
abbrev dN:= @List.length_pos_of_mem
abbrev dO:= @Prod.mk.inj
abbrev dP:= @World.setRow_alloc_new
abbrev dQ:= @List.append_eq_nil_iff
abbrev dR:= @List.getElem?_eq_none
abbrev dS:= @List.set_append_right
abbrev dT:= @Array.size_map
abbrev dU:= @beq_iff_eq
abbrev dV:= @Below.trod
abbrev dW:= @Iff.rfl
