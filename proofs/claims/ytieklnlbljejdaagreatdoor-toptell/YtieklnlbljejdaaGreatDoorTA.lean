import Derived.WalkKit
import Derived.Laws.IdiomStrings
import Derived.Laws.IdiomCopy
import Derived.ArgAppend
import Derived.Test.YtieklnlbljejdaaGreatDoorRows
import Derived.WalkSpells
import Derived.WalkLawsBesides
import Derived.Handy
import Derived.Deep.QuietTactic
import Derived.BigQuiet
import Derived.Deep.RegionLaw
import Derived.Deep.RegionHeld3
import Derived.Deep.DrawnRows
import Derived.LaidLaws
import Derived.ChangeArms
import Derived.Lib.LaidTab
import Derived.Deep.DeepCutAuto
import Derived.Maps.RangeWalk
import Derived.ProofKit
import Derived.Lib.SmallJoins
import Derived.Deep.SlicePairs
import Derived.Deep.Slices
import Derived.Deep.WholeRow
import Derived.RegionTactic
import Derived.BigRegion
import Derived.DeepKeys4
import Derived.ShutString
import Derived.OpenShut
import Derived.ChangeOld
import Derived.Below
import Derived.Deep.DeepHandedRow
namespace Go.Proofs.YtieklnlbljejdaaGreatDoor
open Go.RowKit
theorem fP {α:Type} (a:α):∃x,a=x:=⟨a,rfl⟩
abbrev dV(w:World):=Below w.heap.size w
theorem iq {P:Program} {fn:Func} {R:Ending->World->Prop} {a:Act} {w:World} (hf:fn.results= #[])(hd:a.defers=[])(hR:R (.returned (.tuple #[])) w):bodyPost P fn R .ret a w:=bodyPost_ret (results_none hf _ _ _) hd hR
theorem dP {p:Prop} (h:p:=by omega):p:=h
theorem dS {p:Prop} (h:p:=by decide):p:=h
theorem gJ {p:Prop} (h:p:=by kernel_rfl):p:=h
theorem gN {p:Prop} (h:p:=by simp):p:=h
theorem iL {p:Prop} (h:p:=by assumption):p:=h
abbrev ae:= @if_neg
abbrev af:= @World.block_lt_of_cell?
abbrev ag:= @if_pos
abbrev ai:= @World.cell?_of_block
abbrev aj:= @World.cell?_alloc_mark
abbrev ak:= @Below.heap_setCell
abbrev aq:= @Below.refl
abbrev ar:= @cell_of_row
abbrev au:= @Array.getElem?_eq_some_iff
abbrev av:= @List.getElem?_eq_getElem
abbrev aw:= @List.take_succ_eq_append_getElem
abbrev ax:= @List.mem_singleton
abbrev ay:= @List.length_append
abbrev az:= @List.append_assoc
abbrev aA:= @bodyPost_ret
abbrev aB:= @AllReadyH.cons
abbrev aC:= @List.take_of_length_le
abbrev aD:= @List.getElem_mem
abbrev aE:= @List.eq_nil_of_length_eq_zero
abbrev aF:= @List.mem_append
abbrev aG:= @List.getElem?_eq_some_iff
abbrev aH:= @World.frozen?_of_block
abbrev aI:= @World.cell?_setCell_far
abbrev aJ:= @AllReadyH.nil
abbrev aK:= @List.cons.inj
abbrev aL:= @List.append_nil
abbrev aM:= @IntWalk.i64_in
abbrev aN:= @wpAnyH_ready
abbrev aO:= @List.drop_eq_getElem_cons
abbrev aP:= @World.cell?_setCell_other
abbrev aQ:= @Below.heap_alloc
abbrev aR:= @List.getD_eq_getElem?_getD
abbrev aS:= @heap_alloc_new
abbrev aT:= @info_parts
abbrev aU:= @List.drop_eq_nil_of_le
abbrev aV:= @Array.getElem?_eq_none
abbrev aW:= @DataW.trod_int
abbrev aX:= @Array.getElem?_setIfInBounds
abbrev aY:= @List.mem_range
abbrev aZ:= @List.pairwise_append
abbrev a6:= @List.all_eq_true
abbrev a7:= @List.mem_cons
abbrev a8:= @Below.setCell
abbrev bg:= @World.cell?_setCells_out
abbrev bh:= @frozen_of_row
abbrev bk:= @List.getElem?_append_right
abbrev bn:= @Prod.ext
abbrev bq:= @Array.ext_getElem?
abbrev br:= @List.mem_flatMap
abbrev bu:= @List.mem_of_getElem?
abbrev bw:= @World.cell?_setCells_in
abbrev bz:= @decide_eq_false_iff_not
abbrev bB:= @setCell_eq_setRow
abbrev bC:= @Value.slice.inj
abbrev bD:= @List.mem_map
abbrev bE:= @List.sublist_cons_self
abbrev bF:= @Tryz.underlying140
abbrev bG:= @List.getElem?_append_left
abbrev bH:= @rounds_succ
abbrev bI:= @run_loadVar_row
abbrev bJ:= @List.foldl_cons
abbrev bK:= @List.nodup_cons
abbrev bL:= @World.frozen?_setCells
abbrev bO:= @List.take_append_drop
abbrev bP:= @List.nodup_append
abbrev bQ:= @wp_loop_rounds
abbrev bR:= @Array.all_eq_true_iff_forall_mem
abbrev bS:= @zero_of_info
abbrev bT:= @Tryz.underlying9
abbrev bU:= @congrFun
abbrev bV:= @List.length_take_le
abbrev bW:= @wp_region_held_drew
abbrev bX:= @List.filter_append
abbrev bY:= @List.map_append
abbrev bZ:= @List.pairwise_cons
abbrev cg:= @Maps.keyOf_int_inv
abbrev ch:= @setRow_heap
abbrev cr:= @IntWalk.wrap64_in
abbrev ct:= @List.getElem?_map
abbrev cu:= @Array.getElem?_modify
abbrev cy:= @List.length_filter_le
abbrev cz:= @List.filterMap_append
abbrev cA:= @Prod.ext_iff
abbrev cB:= @List.nodup_range
abbrev cC:= @Array.getElem?_append_left
abbrev cD:= @wpAnyH_done
abbrev cE:= @beq_eq_false_iff_ne
abbrev cF:= @List.flatMap_append
abbrev cG:= @List.filterMap_cons
abbrev cH:= @List.range_succ
abbrev cJ:= @World.frozen?_alloc_mark
abbrev cK:= @Array.getElem?_replicate
abbrev cL:= @List.mem_filterMap
abbrev cM:= @List.flatMap_cons
abbrev cN:= @DataW.trod_struct
abbrev cO:= @List.foldl_append
abbrev cP:= @Tryz.underlying3
abbrev cQ:= @World.cell?_spot
abbrev cR:= @List.take_length
abbrev cS:= @List.length_cons
abbrev cT:= @decide_eq_false
abbrev cU:= @List.mem_cons_of_mem
abbrev cV:= @List.range_eq_range'
abbrev cW:= @List.getElem_of_mem
abbrev cX:= @ByteArray.toList_eq
abbrev cY:= @List.filter_sublist
abbrev cZ:= @List.nodup_nil
abbrev da:= @grownCap_le_maxLen
abbrev db:= @List.getElem?_drop
abbrev dc:= @Go.Deep.open_slice
abbrev de:= @Array.getD_eq_getD_getElem?
abbrev dg:= @List.Nodup.sublist
abbrev dh:= @DataW.trod_string
abbrev di:= @List.pairwise_map
abbrev dj:= @Array.size_append
abbrev dk:= @Tryz.underlying53
abbrev dm:= @World.cell?_setCell_same'
abbrev dq:= @List.pairwise_iff_getElem
abbrev dr:= @Array.toList_inj
abbrev dt:= @Go.Deep.open_slice_pairs
abbrev du:= @Tryz.underlying5
abbrev dv:= @List.range'_succ
abbrev dw:= @List.length_drop
abbrev dx:= @List.Pairwise.imp_of_mem
abbrev dy:= @Maps.has_false_of_atKey
abbrev dA:= @trodAll_cons_mk
abbrev dB:= @run_convert_bytes_back
abbrev dC:= @Maps.has_true_of_atKey
abbrev dD:= @Prod.mk.inj
abbrev dE:= @World.setRow_alloc_new
abbrev dF:= @List.getElem?_eq_none
abbrev dG:= @decide_eq_true
abbrev dH:= @List.set_append_right
abbrev dI:= @Array.size_map
abbrev dJ:= @beq_iff_eq
abbrev dK:= @DataW.trod_lt
abbrev dL:= @Iff.rfl
