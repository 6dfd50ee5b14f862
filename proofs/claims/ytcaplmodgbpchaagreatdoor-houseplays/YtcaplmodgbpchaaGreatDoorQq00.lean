import Derived.Test.YtcaplmodgbpchaaGreatDoorChecked
import Derived.Below
import Derived.Below
import Derived.ChangeArms
import Derived.DataReads
import Derived.Deep.AppendLies
import Derived.Deep.MidRow
import Derived.Defers
import Derived.Laws.AppendOwn
import Derived.Laws.BitsLemmas
import Derived.Laws.Entries
import Derived.Laws.NewBlocks
import Derived.Laws.Rows
import Derived.Laws.Sem
import Derived.Laws.World
import Derived.Lib.SliceRun
import Derived.Maps.AppendAt
import Derived.OwnWalk
import Derived.Recover
import Derived.RegionTactic
import Derived.Tactics
import Derived.TacticsIn
import GoSem.Core.Value
namespace Go.Proofs.YtcaplmodgbpchaaGreatDoor
theorem zQ:type_of% @if_neg:=@if_neg
theorem jQ:type_of% @if_pos:=@if_pos
theorem vQ:type_of% @Nat.le_refl:=@Nat.le_refl
theorem uQ:type_of% @Go.RowKit.Below.refl:=@Go.RowKit.Below.refl
theorem bQ:type_of% @Nat.le_trans:=@Nat.le_trans
theorem cQ:type_of% @Prod.mk.injEq:=@Prod.mk.injEq
theorem dQ:type_of% @Nat.zero_le:=@Nat.zero_le
theorem eQ:type_of% @Go.bodyPost_ret:=@Go.bodyPost_ret
theorem fQ:type_of% @List.getElem?_eq_some_iff:=@List.getElem?_eq_some_iff
theorem lQ:type_of% @Nat.lt_of_lt_of_le:=@Nat.lt_of_lt_of_le
theorem qX:type_of% @List.mem_of_getElem?:=@List.mem_of_getElem?
theorem vX:type_of% @Nat.zero_add:=@Nat.zero_add
theorem rX:type_of% @List.take_add_one:=@List.take_add_one
theorem yZ:type_of% @Go.Value.slice.injEq:=@Go.Value.slice.injEq
theorem aZ:type_of% @Option.some.injEq:=@Option.some.injEq
theorem lZ:type_of% @decide_eq_false:=@decide_eq_false
theorem nZ:type_of% @List.getElem?_eq_getElem:=@List.getElem?_eq_getElem
theorem pZ:type_of% @Go.info_parts:=@Go.info_parts
theorem vJ:type_of% @Go.World.cell?_of_block:=@Go.World.cell?_of_block
theorem bJ:type_of% @Go.Addr.add_lit:=@Go.Addr.add_lit
theorem dJ:type_of% @decide_eq_true_eq:=@decide_eq_true_eq
theorem gJ:type_of% @List.take_of_length_le:=@List.take_of_length_le
theorem iJ:type_of% @List.mem_map:=@List.mem_map
theorem kJ:type_of% @List.mem_cons:=@List.mem_cons
theorem lJ:type_of% @Go.IntKind.wrap_i64:=@Go.IntKind.wrap_i64
theorem sJ:type_of% @decide_eq_true:=@decide_eq_true
theorem aV:type_of% @List.mem_append:=@List.mem_append
theorem eV:type_of% @List.drop_eq_getElem_cons:=@List.drop_eq_getElem_cons
theorem mV:type_of% @List.getElem?_map:=@List.getElem?_map
theorem nV:type_of% @Go.World.frozen?_of_block:=@Go.World.frozen?_of_block
theorem mY:type_of% @Array.getElem?_eq_some_iff:=@Array.getElem?_eq_some_iff
theorem nY:type_of% @Int.eq_ofNat_of_zero_le:=@Int.eq_ofNat_of_zero_le
theorem sY:type_of% @List.length_append:=@List.length_append
theorem yU:type_of% @beq_eq_false_iff_ne:=@beq_eq_false_iff_ne
theorem bU:type_of% @List.take_length:=@List.take_length
theorem cU:type_of% @Nat.add_assoc:=@Nat.add_assoc
theorem lU:type_of% @List.length_take:=@List.length_take
theorem uA:type_of% @if_true:=@if_true
theorem gA:type_of% @List.drop_eq_nil_of_le:=@List.drop_eq_nil_of_le
theorem iA:type_of% @List.map_append:=@List.map_append
theorem pA:type_of% @List.length_map:=@List.length_map
theorem bG:type_of% @List.append_nil:=@List.append_nil
theorem nG:type_of% @List.drop_of_length_le:=@List.drop_of_length_le
theorem oG:type_of% @List.getElem?_take_of_lt:=@List.getElem?_take_of_lt
theorem pG:type_of% @List.mem_of_mem_take:=@List.mem_of_mem_take
theorem rG:type_of% @Go.wpAny_ready:=@Go.wpAny_ready
theorem sG:type_of% @Go.AllReady.cons:=@Go.AllReady.cons
theorem tG:type_of% @Go.AllReady.nil:=@Go.AllReady.nil
theorem cD:type_of% @List.length_cons:=@List.length_cons
theorem dD:type_of% @Go.Addr.mk.injEq:=@Go.Addr.mk.injEq
theorem sD:type_of% @Int.mul_nonneg:=@Int.mul_nonneg
theorem tD:type_of% @of_decide_eq_true:=@of_decide_eq_true
theorem wD:type_of% @List.getElem?_set_self:=@List.getElem?_set_self
theorem qF:type_of% @Go.wpList_append_own:=@Go.wpList_append_own
theorem xF:type_of% @List.cons_append:=@List.cons_append
theorem pF:type_of% @List.length_drop:=@List.length_drop
theorem rF:type_of% @Go.DataW.trod_int:=@Go.DataW.trod_int
theorem sF:type_of% @List.getElem?_set_ne:=@List.getElem?_set_ne
theorem tF:type_of% @Int.toNat_natCast:=@Int.toNat_natCast
theorem mH:type_of% @List.getElem?_append_right:=@List.getElem?_append_right
theorem nH:type_of% @Int.mul_le_mul:=@Int.mul_le_mul
theorem oH:type_of% @Go.Result.andThen_ok:=@Go.Result.andThen_ok
theorem pH:type_of% @Go.World.cell?_alloc_lt:=@Go.World.cell?_alloc_lt
theorem aI:type_of% @List.map_cons:=@List.map_cons
theorem bI:type_of% @List.mem_filter:=@List.mem_filter
theorem cI:type_of% @List.not_mem_nil:=@List.not_mem_nil
theorem dI:type_of% @or_false:=@or_false
theorem eI:type_of% @Bool.and_eq_true:=@Bool.and_eq_true
theorem fI:type_of% @Nat.add_zero:=@Nat.add_zero
theorem gI:type_of% @Int.natCast_mul:=@Int.natCast_mul
theorem iI:type_of% @Nat.sub_self:=@Nat.sub_self
theorem mI:type_of% @List.mem_or_eq_of_mem_set:=@List.mem_or_eq_of_mem_set
theorem fK:type_of% @Int.le_trans:=@Int.le_trans
theorem gK:type_of% @if_false:=@if_false
theorem iK:type_of% @Int.le_refl:=@Int.le_refl
theorem kK:type_of% @List.getElem?_drop:=@List.getElem?_drop
theorem lK:type_of% @List.mem_range:=@List.mem_range
theorem mK:type_of% @List.length_set:=@List.length_set
theorem oK:type_of% @List.length_singleton:=@List.length_singleton
theorem pK:type_of% @Int.mul_assoc:=@Int.mul_assoc
theorem lL:type_of% @Go.heap_alloc_new:=@Go.heap_alloc_new
theorem mL:type_of% @List.pairwise_cons:=@List.pairwise_cons
theorem nL:type_of% @List.drop_zero:=@List.drop_zero
theorem oL:type_of% @List.length_eq_zero_iff:=@List.length_eq_zero_iff
theorem pL:type_of% @List.getElem?_eq_none:=@List.getElem?_eq_none
theorem rL:type_of% @Array.length_toList:=@Array.length_toList
theorem sL:type_of% @Int.le_of_lt:=@Int.le_of_lt
theorem tL:type_of% @of_decide_eq_false:=@of_decide_eq_false
theorem wL:type_of% @Int.pow_succ:=@Int.pow_succ
theorem qM:type_of% @List.mem_cons_of_mem:=@List.mem_cons_of_mem
theorem tM:type_of% @Go.RowKit.Below.heap_alloc:=@Go.RowKit.Below.heap_alloc
theorem wM:type_of% @Int.ediv_nonneg:=@Int.ediv_nonneg
theorem qN:type_of% @Int.ediv_le_self:=@Int.ediv_le_self
theorem xN:type_of% @List.take_append_drop:=@List.take_append_drop
theorem zN:type_of% @List.filter_append:=@List.filter_append
theorem jN:type_of% @Go.Sem.run_pure:=@Go.Sem.run_pure
theorem vN:type_of% @List.getElem?_take:=@List.getElem?_take
theorem yN:type_of% @List.pairwise_append:=@List.pairwise_append
theorem uN:type_of% @List.mem_singleton:=@List.mem_singleton
theorem aN:type_of% @List.all_eq_true:=@List.all_eq_true
theorem bN:type_of% @List.mem_cons_self:=@List.mem_cons_self
theorem cN:type_of% @Go.step_append_lies:=@Go.step_append_lies
theorem dN:type_of% @Go.results_none:=@Go.results_none
theorem fO:type_of% @Go.RowKit.Below.heap_setCell:=@Go.RowKit.Below.heap_setCell
theorem gO:type_of% @List.getElem?_append_left:=@List.getElem?_append_left
theorem iO:type_of% @Go.wpList_append_own_at:=@Go.wpList_append_own_at
theorem lO:type_of% @List.ext_getElem?:=@List.ext_getElem?
theorem mO:type_of% @Nat.eq_zero_or_pos:=@Nat.eq_zero_or_pos
theorem nO:type_of% @Go.World.cell?_spot:=@Go.World.cell?_spot
theorem oO:type_of% @Go.wp_region_lit:=@Go.wp_region_lit
theorem pO:type_of% @Go.World.cell?_alloc_at:=@Go.World.cell?_alloc_at
theorem rO:type_of% @Nat.pow_succ:=@Nat.pow_succ
theorem sO:type_of% @and_true:=@and_true
theorem tO:type_of% @Go.Lib.run_eql_slice_nil:=@Go.Lib.run_eql_slice_nil
theorem wO:type_of% @Go.World.ownsRow_made:=@Go.World.ownsRow_made
theorem qP:type_of% @Go.World.grownBy.refl:=@Go.World.grownBy.refl
theorem oR:type_of% @Go.World.cell?_setCell_other:=@Go.World.cell?_setCell_other
theorem pR:type_of% @Go.World.frozen?_setCell:=@Go.World.frozen?_setCell
theorem rR:type_of% @Int.mul_le_mul_of_nonneg_right:=@Int.mul_le_mul_of_nonneg_right
theorem sR:type_of% @Go.Oper.semAt_some:=@Go.Oper.semAt_some
theorem tR:type_of% @Int.mul_le_mul_of_nonneg_left:=@Int.mul_le_mul_of_nonneg_left
theorem wR:type_of% @Option.map_eq_some_iff:=@Option.map_eq_some_iff
theorem qS:type_of% @List.append_assoc:=@List.append_assoc
theorem xS:type_of% @List.set_append_right:=@List.set_append_right
theorem zS:type_of% @Nat.zero_mul:=@Nat.zero_mul
theorem jS:type_of% @Go.callsD_of_wpS:=@Go.callsD_of_wpS
theorem vS:type_of% @Go.leaves_cons:=@Go.leaves_cons
theorem yS:type_of% @List.map_eq_nil_iff:=@List.map_eq_nil_iff
theorem eC:type_of% @List.flatMap_cons:=@List.flatMap_cons
theorem gC:type_of% @List.mem_flatMap:=@List.mem_flatMap
theorem iC:type_of% @List.map_nil:=@List.map_nil
theorem kC:type_of% @Go.wpList_load_mid:=@Go.wpList_load_mid
theorem lC:type_of% @Int.natCast_add:=@Int.natCast_add
theorem nC:type_of% @Go.World.frozen?_alloc_at:=@Go.World.frozen?_alloc_at
theorem pC:type_of% @List.filter_eq_nil_iff:=@List.filter_eq_nil_iff
theorem amZ:type_of% @List.mem_of_mem_drop:=@List.mem_of_mem_drop
theorem amJ:type_of% @List.map_congr_left:=@List.map_congr_left
theorem anQ:type_of% @List.getElem?_replicate:=@List.getElem?_replicate
theorem anX:type_of% @List.mem_map_of_mem:=@List.mem_map_of_mem
theorem anZ:type_of% @List.eq_nil_of_length_eq_zero:=@List.eq_nil_of_length_eq_zero
theorem aoQ:type_of% @List.length_pos_iff:=@List.length_pos_iff
theorem qQ {p:Prop} (h:p):Go.RowKit.Hid p:=h
open Go Go.RowKit
abbrev xQ (w v:World):Prop:=Below w.heap.size w v
open Go Go.RowKit
abbrev iQ (w:World)(v:Value):Ending→World→Prop:=fun e w'=>e=.returned v∧Below w.heap.size w w'
end Go.Proofs.YtcaplmodgbpchaaGreatDoor
