import Derived.Test.YtdceajgpolckiaaGreatDoorChecked
import Derived.Below
import Derived.Below
import Derived.CallsIn
import Derived.ChangeArms
import Derived.DataReads
import Derived.Deep.AppendLies
import Derived.Deep.MidRow
import Derived.Deep.WholeRow
import Derived.Defers
import Derived.Laws.AppendOwn
import Derived.Laws.BitsLemmas
import Derived.Laws.Entries
import Derived.Laws.NewBlocks
import Derived.Laws.Rows
import Derived.Laws.Sem
import Derived.Laws.World
import Derived.Lib.OwnKind
import Derived.Lib.SliceRun
import Derived.OpenShut
import Derived.OwnWalk
import Derived.RangeFuncBox
import Derived.RangeFuncRecord
import Derived.Recover
import Derived.RegionTactic
import Derived.Tactics
import Derived.TacticsIn
import GoSem.Core.Value
namespace Go.Proofs.YtdceajgpolckiaaGreatDoor
theorem xQ:type_of% @if_neg:=@if_neg
theorem zQ:type_of% @if_pos:=@if_pos
theorem vQ:type_of% @Nat.le_refl:=@Nat.le_refl
theorem uQ:type_of% @Go.bodyPost_ret:=@Go.bodyPost_ret
theorem aQ:type_of% @Go.RowKit.Below.refl:=@Go.RowKit.Below.refl
theorem bQ:type_of% @Nat.le_trans:=@Nat.le_trans
theorem cQ:type_of% @List.getElem?_eq_some_iff:=@List.getElem?_eq_some_iff
theorem fQ:type_of% @Prod.mk.injEq:=@Prod.mk.injEq
theorem kQ:type_of% @Nat.zero_le:=@Nat.zero_le
theorem qX:type_of% @List.mem_of_getElem?:=@List.mem_of_getElem?
theorem zX:type_of% @Option.some.injEq:=@Option.some.injEq
theorem uX:type_of% @Nat.lt_of_lt_of_le:=@Nat.lt_of_lt_of_le
theorem fX:type_of% @List.mem_cons:=@List.mem_cons
theorem tX:type_of% @List.mem_map:=@List.mem_map
theorem xZ:type_of% @Nat.zero_add:=@Nat.zero_add
theorem fZ:type_of% @List.take_add_one:=@List.take_add_one
theorem gZ:type_of% @Go.Value.slice.injEq:=@Go.Value.slice.injEq
theorem rZ:type_of% @Go.World.cell?_of_block:=@Go.World.cell?_of_block
theorem zJ:type_of% @List.getElem?_eq_getElem:=@List.getElem?_eq_getElem
theorem yJ:type_of% @Array.getElem?_eq_some_iff:=@Array.getElem?_eq_some_iff
theorem dJ:type_of% @List.length_append:=@List.length_append
theorem lJ:type_of% @List.drop_eq_getElem_cons:=@List.drop_eq_getElem_cons
theorem pJ:type_of% @List.length_cons:=@List.length_cons
theorem rJ:type_of% @List.take_of_length_le:=@List.take_of_length_le
theorem xV:type_of% @List.map_cons:=@List.map_cons
theorem zV:type_of% @Go.info_parts:=@Go.info_parts
theorem jV:type_of% @Go.World.frozen?_of_block:=@Go.World.frozen?_of_block
theorem vV:type_of% @Nat.add_assoc:=@Nat.add_assoc
theorem kV:type_of% @List.mem_append:=@List.mem_append
theorem rV:type_of% @decide_eq_false:=@decide_eq_false
theorem qY:type_of% @decide_eq_true_eq:=@decide_eq_true_eq
theorem yY:type_of% @List.map_append:=@List.map_append
theorem fY:type_of% @List.drop_eq_nil_of_le:=@List.drop_eq_nil_of_le
theorem iY:type_of% @List.pairwise_cons:=@List.pairwise_cons
theorem uU:type_of% @List.length_map:=@List.length_map
theorem aU:type_of% @if_true:=@if_true
theorem fU:type_of% @List.append_nil:=@List.append_nil
theorem iU:type_of% @Go.Addr.add_lit:=@Go.Addr.add_lit
theorem sU:type_of% @Go.IntKind.wrap_i64:=@Go.IntKind.wrap_i64
theorem uA:type_of% @List.getElem?_map:=@List.getElem?_map
theorem aA:type_of% @Go.callsIn_wide:=@Go.callsIn_wide
theorem gA:type_of% @Int.eq_ofNat_of_zero_le:=@Int.eq_ofNat_of_zero_le
theorem iA:type_of% @Int.mul_nonneg:=@Int.mul_nonneg
theorem lA:type_of% @List.length_take:=@List.length_take
theorem rA:type_of% @beq_eq_false_iff_ne:=@beq_eq_false_iff_ne
theorem sA:type_of% @List.getElem?_set_self:=@List.getElem?_set_self
theorem wA:type_of% @Nat.add_zero:=@Nat.add_zero
theorem qG:type_of% @List.cons_append:=@List.cons_append
theorem yG:type_of% @List.length_nil:=@List.length_nil
theorem uG:type_of% @decide_eq_true:=@decide_eq_true
theorem aG:type_of% @Int.le_refl:=@Int.le_refl
theorem bG:type_of% @Go.Addr.mk.injEq:=@Go.Addr.mk.injEq
theorem oG:type_of% @List.getElem?_set_ne:=@List.getElem?_set_ne
theorem pG:type_of% @Go.wpAny_ready:=@Go.wpAny_ready
theorem rG:type_of% @Go.AllReady.cons:=@Go.AllReady.cons
theorem sG:type_of% @Go.AllReady.nil:=@Go.AllReady.nil
theorem fD:type_of% @Go.results_none:=@Go.results_none
theorem zF:type_of% @List.take_length:=@List.take_length
theorem jF:type_of% @List.getElem?_append_right:=@List.getElem?_append_right
theorem vF:type_of% @List.getElem?_take_of_lt:=@List.getElem?_take_of_lt
theorem yF:type_of% @List.not_mem_nil:=@List.not_mem_nil
theorem uF:type_of% @or_false:=@or_false
theorem aF:type_of% @Go.wp_region_lit:=@Go.wp_region_lit
theorem bF:type_of% @Int.le_of_lt:=@Int.le_of_lt
theorem vH:type_of% @Go.DataW.trod_int:=@Go.DataW.trod_int
theorem yH:type_of% @of_decide_eq_true:=@of_decide_eq_true
theorem uH:type_of% @List.mem_range:=@List.mem_range
theorem aH:type_of% @List.mem_of_mem_take:=@List.mem_of_mem_take
theorem bH:type_of% @List.length_singleton:=@List.length_singleton
theorem cH:type_of% @Go.World.cell?_alloc_lt:=@Go.World.cell?_alloc_lt
theorem jI:type_of% @List.length_eq_zero_iff:=@List.length_eq_zero_iff
theorem vI:type_of% @Prod.ext:=@Prod.ext
theorem yI:type_of% @Nat.zero_mul:=@Nat.zero_mul
theorem zK:type_of% @List.drop_of_length_le:=@List.drop_of_length_le
theorem jK:type_of% @if_false:=@if_false
theorem vK:type_of% @Int.mul_le_mul_of_nonneg_right:=@Int.mul_le_mul_of_nonneg_right
theorem yK:type_of% @List.getElem?_drop:=@List.getElem?_drop
theorem uK:type_of% @Bool.and_eq_true:=@Bool.and_eq_true
theorem aK:type_of% @Int.toNat_natCast:=@Int.toNat_natCast
theorem bK:type_of% @Go.Result.andThen_ok:=@Go.Result.andThen_ok
theorem cK:type_of% @List.mem_or_eq_of_mem_set:=@List.mem_or_eq_of_mem_set
theorem uL:type_of% @Int.mul_pos:=@Int.mul_pos
theorem aL:type_of% @List.getElem?_take:=@List.getElem?_take
theorem bL:type_of% @List.getElem?_eq_none:=@List.getElem?_eq_none
theorem cL:type_of% @Go.wpList_append_own:=@Go.wpList_append_own
theorem dL:type_of% @List.all_eq_true:=@List.all_eq_true
theorem eL:type_of% @Go.World.putObj_heap_other:=@Go.World.putObj_heap_other
theorem jM:type_of% @Go.RowKit.Below.heap_setCell:=@Go.RowKit.Below.heap_setCell
theorem vM:type_of% @Go.RowKit.Below.heap_alloc:=@Go.RowKit.Below.heap_alloc
theorem yM:type_of% @List.ext_getElem?:=@List.ext_getElem?
theorem uM:type_of% @Go.World.alloc_heap_new:=@Go.World.alloc_heap_new
theorem aM:type_of% @Nat.eq_zero_or_pos:=@Nat.eq_zero_or_pos
theorem bM:type_of% @Go.wpList_load_mid:=@Go.wpList_load_mid
theorem cM:type_of% @List.append_assoc:=@List.append_assoc
theorem dM:type_of% @Nat.sub_self:=@Nat.sub_self
theorem eM:type_of% @of_decide_eq_false:=@of_decide_eq_false
theorem fM:type_of% @Int.mul_assoc:=@Int.mul_assoc
theorem gM:type_of% @Go.World.grownBy.refl:=@Go.World.grownBy.refl
theorem eN:type_of% @Go.World.grownBy_alloc:=@Go.World.grownBy_alloc
theorem fN:type_of% @Int.le_trans:=@Int.le_trans
theorem gN:type_of% @Int.ediv_le_self:=@Int.ediv_le_self
theorem iN:type_of% @List.length_drop:=@List.length_drop
theorem mN:type_of% @List.flatMap_cons:=@List.flatMap_cons
theorem nN:type_of% @List.mem_flatMap:=@List.mem_flatMap
theorem oN:type_of% @List.length_set:=@List.length_set
theorem rN:type_of% @Go.World.cell?_spot:=@Go.World.cell?_spot
theorem sN:type_of% @Go.World.cell?_alloc_at:=@Go.World.cell?_alloc_at
theorem tN:type_of% @List.nil_append:=@List.nil_append
theorem wN:type_of% @Go.Oper.semAt_some:=@Go.Oper.semAt_some
theorem qO:type_of% @Int.mul_le_mul:=@Int.mul_le_mul
theorem xO:type_of% @Int.pow_succ:=@Int.pow_succ
theorem zO:type_of% @and_true:=@and_true
theorem jO:type_of% @Go.Boxed.new:=@Go.Boxed.new
theorem cP:type_of% @Go.World.size_alloc:=@Go.World.size_alloc
theorem dP:type_of% @Go.heap_alloc_new:=@Go.heap_alloc_new
theorem eP:type_of% @Int.ediv_nonneg:=@Int.ediv_nonneg
theorem fP:type_of% @List.take_append_drop:=@List.take_append_drop
theorem gP:type_of% @Int.add_mul:=@Int.add_mul
theorem iP:type_of% @List.drop_zero:=@List.drop_zero
theorem lP:type_of% @List.filter_append:=@List.filter_append
theorem mP:type_of% @Go.Sem.run_pure:=@Go.Sem.run_pure
theorem nP:type_of% @List.map_nil:=@List.map_nil
theorem oP:type_of% @Array.length_toList:=@Array.length_toList
theorem pP:type_of% @List.mem_singleton:=@List.mem_singleton
theorem rP:type_of% @Option.map_eq_some_iff:=@Option.map_eq_some_iff
theorem sP:type_of% @List.set_append_right:=@List.set_append_right
theorem tP:type_of% @List.mem_cons_of_mem:=@List.mem_cons_of_mem
theorem qR:type_of% @List.mem_cons_self:=@List.mem_cons_self
theorem xR:type_of% @Go.Lib.run_eql_slice_nil:=@Go.Lib.run_eql_slice_nil
theorem zR:type_of% @Go.World.ownsRow_made:=@Go.World.ownsRow_made
theorem tS:type_of% @Go.World.cell?_setCell_other:=@Go.World.cell?_setCell_other
theorem wS:type_of% @Go.World.frozen?_setCell:=@Go.World.frozen?_setCell
theorem qT:type_of% @List.getElem?_append_left:=@List.getElem?_append_left
theorem xT:type_of% @List.getElem?_replicate:=@List.getElem?_replicate
theorem zT:type_of% @Int.natCast_add:=@Int.natCast_add
theorem jT:type_of% @List.eq_of_mem_replicate:=@List.eq_of_mem_replicate
theorem vT:type_of% @Go.Sem.run_bind:=@Go.Sem.run_bind
theorem yT:type_of% @Go.callsD_of_wpS:=@Go.callsD_of_wpS
theorem uT:type_of% @Go.leaves_cons:=@Go.leaves_cons
theorem aT:type_of% @Go.Lib.ownsRow_kind:=@Go.Lib.ownsRow_kind
theorem qE:type_of% @List.pairwise_map:=@List.pairwise_map
theorem zE:type_of% @List.mem_of_mem_drop:=@List.mem_of_mem_drop
theorem jE:type_of% @Int.ediv_pos_of_pos_of_dvd:=@Int.ediv_pos_of_pos_of_dvd
theorem vE:type_of% @Go.trodAll_cons_mk:=@Go.trodAll_cons_mk
theorem yE:type_of% @List.map_congr_left:=@List.map_congr_left
theorem uE:type_of% @Go.wpList_append_lies:=@Go.wpList_append_lies
theorem aE:type_of% @Go.run_underlying:=@Go.run_underlying
theorem bE:type_of% @Int.mul_le_mul_of_nonneg_left:=@Int.mul_le_mul_of_nonneg_left
theorem cE:type_of% @Int.natCast_mul:=@Int.natCast_mul
theorem dE:type_of% @List.length_pos_iff:=@List.length_pos_iff
theorem eE:type_of% @List.size_toArray:=@List.size_toArray
theorem fE:type_of% @Array.replicate_succ:=@Array.replicate_succ
theorem gE:type_of% @Array.replicate_zero:=@Array.replicate_zero
theorem iE:type_of% @List.push_toArray:=@List.push_toArray
theorem kE:type_of% @List.append_toArray:=@List.append_toArray
theorem lE:type_of% @Go.World.frozen?_alloc_at:=@Go.World.frozen?_alloc_at
theorem mE:type_of% @Go.grownBy_setCell':=@Go.grownBy_setCell'
theorem oE:type_of% @List.map_eq_nil_iff:=@List.map_eq_nil_iff
theorem pE:type_of% @List.filter_eq_nil_iff:=@List.filter_eq_nil_iff
theorem rE:type_of% @Go.World.putObj_heap_same:=@Go.World.putObj_heap_same
theorem anQ:type_of% @Int.mul_ediv_cancel':=@Int.mul_ediv_cancel'
theorem aoQ:type_of% @List.pairwise_append:=@List.pairwise_append
theorem aoX:type_of% @List.mem_map_of_mem:=@List.mem_map_of_mem
theorem aoZ:type_of% @List.eq_nil_of_length_eq_zero:=@List.eq_nil_of_length_eq_zero
theorem apX:type_of% @Go.World.setRow_alloc_new:=@Go.World.setRow_alloc_new
theorem apZ:type_of% @Classical.byContradiction:=@Classical.byContradiction
theorem qQ {p:Prop} (h:p):Go.RowKit.Hid p:=h
end Go.Proofs.YtdceajgpolckiaaGreatDoor
