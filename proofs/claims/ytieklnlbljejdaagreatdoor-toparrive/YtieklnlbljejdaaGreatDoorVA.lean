import Derived.WalkKit
import Derived.Laws.IdiomStrings
import Derived.Laws.IdiomCopy
import Derived.ArgAppend
import Derived.Test.YtieklnlbljejdaaGreatDoorRows
import Derived.WalkSpells
import Derived.WalkLawsBesides
import Derived.Handy
import Derived.Deep.QuietTactic
import Derived.BigQuiet
import Derived.Deep.RegionLaw
import Derived.Deep.RegionHeld3
import Derived.Deep.DrawnRows
import Derived.LaidLaws
import Derived.ChangeArms
import Derived.Lib.LaidTab
import Derived.ProofKit
import Derived.Lib.SmallJoins
import Derived.Deep.SlicePairs
import Derived.Deep.DeepCutAuto
import Derived.Maps.RangeWalk
import Derived.Deep.Slices
import Derived.RegionTactic
import Derived.BigRegion
import Derived.Deep.WholeRow
import Derived.DeepKeys4
import Derived.ShutString
import Derived.OpenShut
import Derived.ChangeOld
import Derived.Below
import Derived.Deep.DeepHandedRow
namespace Go.Proofs.YtieklnlbljejdaaGreatDoor
open Go.RowKit
theorem fH {α:Type} (a:α):∃x,a=x:=⟨a,rfl⟩
abbrev fP(w:World):=Below w.heap.size w
theorem nX {P:Program} {fn:Func} {R:Ending->World->Prop} {a:Act} {w:World} (hf:fn.results= #[])(hd:a.defers=[])(hR:R (.returned (.tuple #[])) w):bodyPost P fn R .ret a w:=bodyPost_ret (results_none hf _ _ _) hd hR
theorem fC {p:Prop} (h:p:=by omega):p:=h
theorem fF {p:Prop} (h:p:=by decide):p:=h
theorem iV {p:Prop} (h:p:=by kernel_rfl):p:=h
theorem gZ {p:Prop} (h:p:=by simp):p:=h
theorem j9 {p:Prop} (h:p:=by assumption):p:=h
abbrev af:= @if_neg
abbrev ag:= @if_pos
abbrev ai:= @World.block_lt_of_cell?
abbrev aj:= @Nat.le_refl
abbrev ak:= @World.cell?_of_block
abbrev aq:= @Nat.lt_of_lt_of_le
abbrev au:= @Nat.le_trans
abbrev aw:= @Nat.zero_le
abbrev ax:= @Below.heap_setCell
abbrev ay:= @World.cell?_alloc_mark
abbrev az:= @List.mem_singleton
abbrev aA:= @List.mem_append
abbrev aB:= @List.getElem?_eq_getElem
abbrev aC:= @Below.refl
abbrev aD:= @cell_of_row
abbrev aE:= @Array.getElem?_eq_some_iff
abbrev aF:= @List.append_nil
abbrev aG:= @List.length_append
abbrev aH:= @List.cons.inj
abbrev aJ:= @List.take_succ_eq_append_getElem
abbrev aK:= @List.append_assoc
abbrev aL:= @Option.some.inj
abbrev aM:= @List.getD_eq_getElem?_getD
abbrev aN:= @bodyPost_ret
abbrev aO:= @List.getElem_mem
abbrev aP:= @AllReadyH.cons
abbrev aQ:= @List.eq_nil_of_length_eq_zero
abbrev aR:= @List.take_of_length_le
abbrev aS:= @List.mem_cons
abbrev aT:= @List.getElem?_eq_some_iff
abbrev aU:= @List.mem_range
abbrev aV:= @World.frozen?_of_block
abbrev aW:= @World.cell?_setCell_far
abbrev aX:= @AllReadyH.nil
abbrev aY:= @Nat.zero_add
abbrev aZ:= @Int.le_refl
abbrev a8:= @wpAnyH_ready
abbrev a9:= @List.drop_eq_getElem_cons
abbrev bg:= @IntWalk.i64_in
abbrev bh:= @List.mem_flatMap
abbrev bk:= @Below.heap_alloc
abbrev bq:= @Prod.ext
abbrev br:= @World.cell?_setCell_other
abbrev bu:= @info_parts
abbrev bw:= @heap_alloc_new
abbrev bz:= @List.all_eq_true
abbrev bB:= @List.drop_eq_nil_of_le
abbrev bD:= @Array.getElem?_eq_none
abbrev bE:= @List.nodup_cons
abbrev bF:= @DataW.trod_int
abbrev bG:= @List.filterMap_cons
abbrev bH:= @Array.getElem?_setIfInBounds
abbrev bI:= @Int.toNat_natCast
abbrev bJ:= @List.pairwise_append
abbrev bK:= @Nat.le_succ
abbrev bL:= @List.getElem?_append_right
abbrev bO:= @Below.setCell
abbrev bP:= @Nat.add_assoc
abbrev bQ:= @World.cell?_setCells_out
abbrev bR:= @frozen_of_row
abbrev bS:= @List.nodup_append
abbrev bT:= @List.getElem?_append_left
abbrev bU:= @List.nil_append
abbrev bV:= @List.foldl_cons
abbrev bW:= @List.filterMap_append
abbrev bX:= @List.mem_map
abbrev bY:= @List.mem_of_getElem?
abbrev bZ:= @World.cell?_setCells_in
abbrev b9:= @decide_eq_false_iff_not
abbrev cg:= @setCell_eq_setRow
abbrev ch:= @Value.slice.inj
abbrev cr:= @List.sublist_cons_self
abbrev ct:= @Nat.le_add_right
abbrev cu:= @Array.ext_getElem?
abbrev cy:= @rounds_succ
abbrev cz:= @zero_of_info
abbrev cA:= @run_loadVar_row
abbrev cB:= @List.nodup_range
abbrev cC:= @World.frozen?_setCells
abbrev cD:= @List.mem_filterMap
abbrev cE:= @List.range_succ
abbrev cF:= @List.flatMap_cons
abbrev cG:= @List.mem_cons_of_mem
abbrev cH:= @wp_loop_rounds
abbrev cJ:= @UInt8.toNat_ofNat_of_lt'
abbrev cK:= @Option.isSome_iff_exists
abbrev cL:= @Array.all_eq_true_iff_forall_mem
abbrev cM:= @List.take_length
abbrev cN:= @congrFun
abbrev cO:= @List.flatMap_append
abbrev cQ:= @List.length_take_le
abbrev cR:= @wp_region_held_drew
abbrev cS:= @List.filter_append
abbrev cT:= @Maps.keyOf_int_inv
abbrev cU:= @List.pairwise_cons
abbrev cV:= @trodAll_cons_mk
abbrev cW:= @setRow_heap
abbrev cX:= @IntWalk.wrap64_in
abbrev cY:= @List.getElem?_map
abbrev cZ:= @List.length_filter_le
abbrev da:= @List.take_append_drop
abbrev db:= @List.eq_nil_or_concat
abbrev dc:= @List.concat_eq_append
abbrev de:= @Array.getElem?_modify
abbrev dg:= @Prod.ext_iff
abbrev dh:= @List.length_cons
abbrev di:= @Array.getElem?_append_left
abbrev dj:= @DataW.trod_lt
abbrev dk:= @wpAnyH_done
abbrev dm:= @beq_eq_false_iff_ne
abbrev dq:= @UInt8.toNat_inj
abbrev dr:= @List.map_append
abbrev dt:= @List.mem_of_find?_eq_some
abbrev du:= @List.filterMap_eq_nil_iff
abbrev dv:= @World.frozen?_alloc_mark
abbrev dw:= @Nat.lt_or_ge
abbrev dx:= @Nat.sub_self
abbrev dy:= @List.length_erase_of_mem
abbrev dA:= @Nat.lt_or_gt_of_ne
abbrev dB:= @Nat.le_of_eq
abbrev dC:= @List.nodup_nil
abbrev dD:= @DataW.trod_struct
abbrev dE:= @List.foldl_append
abbrev dF:= @Option.map_eq_some_iff
abbrev dG:= @World.cell?_spot
abbrev dH:= @Nat.mul_le_mul_right
abbrev dI:= @List.mem_erase_of_ne
abbrev dJ:= @decide_eq_false
abbrev dK:= @Nat.add_zero
abbrev dL:= @List.range_eq_range'
abbrev dM:= @List.mem_of_mem_take
abbrev dN:= @Below.trod
abbrev dO:= @List.getElem_of_mem
abbrev dP:= @ByteArray.toList_eq
abbrev dQ:= @Array.length_toList
abbrev dR:= @List.filter_sublist
abbrev dS:= @decide_eq_true
abbrev dT:= @grownCap_le_maxLen
abbrev dU:= @List.getElem?_drop
abbrev dV:= @Go.Deep.open_slice
abbrev dW:= @Array.getD_eq_getD_getElem?
abbrev dX:= @List.Nodup.sublist
abbrev dY:= @DataW.trod_string
abbrev dZ:= @List.pairwise_map
abbrev eh:= @Array.size_append
abbrev eu:= @List.length_range
abbrev ew:= @World.cell?_setCell_same'
abbrev eA:= @List.pairwise_iff_getElem
abbrev eB:= @Go.Deep.open_slice_pairs
abbrev eD:= @Array.toList_inj
abbrev eE:= @Nat.lt_succ_self
abbrev eF:= @List.range'_succ
abbrev eG:= @List.length_drop
abbrev eH:= @Nat.sub_zero
abbrev eI:= @List.length_filterMap_le
abbrev eM:= @List.Pairwise.imp_of_mem
abbrev eN:= @Tryz.underlying3
abbrev eO:= @Maps.has_false_of_atKey
abbrev eP:= @List.length_eq_zero_iff
abbrev eQ:= @List.find?_some
abbrev eR:= @run_convert_bytes_back
abbrev eT:= @Maps.has_true_of_atKey
abbrev eU:= @List.length_pos_of_mem
abbrev eV:= @Prod.mk.inj
abbrev eW:= @World.setRow_alloc_new
abbrev eX:= @List.append_eq_nil_iff
abbrev eY:= @List.getElem?_eq_none
abbrev eZ:= @List.set_append_right
abbrev e7:= @UInt8.lt_iff_toNat_lt
abbrev fa:= @Array.size_map
abbrev fc:= @Iff.rfl
abbrev fe:= @beq_iff_eq
abbrev fh:= @Nat.lt_irrefl
abbrev fj:= @List.map_cons
abbrev fp:= @Int.ofNat.inj
