import Derived.Test.YtdceajgpolckiaaGreatDoorChecked
import Derived.Below
import Derived.Below
import Derived.ChangeArms
import Derived.DataReads
import Derived.Deep.AppendLies
import Derived.Deep.MidRow
import Derived.Deep.WholeRow
import Derived.Defers
import Derived.Laws.AppendOwn
import Derived.Laws.BitsLemmas
import Derived.Laws.Entries
import Derived.Laws.NewBlocks
import Derived.Laws.OwnMore
import Derived.Laws.Rows
import Derived.Laws.Sem
import Derived.Laws.World
import Derived.Lib.SliceRun
import Derived.Maps.AppendAt
import Derived.OwnWalk
import Derived.Recover
import Derived.RegionTactic
import Derived.Tactics
import Derived.TacticsIn
import GoSem.Core.Value
namespace Go.Proofs.YtdceajgpolckiaaGreatDoor
theorem qQ:type_of% @if_neg:=@if_neg
theorem xQ:type_of% @if_pos:=@if_pos
theorem vQ:type_of% @Nat.le_refl:=@Nat.le_refl
theorem yQ:type_of% @Go.bodyPost_ret:=@Go.bodyPost_ret
theorem uQ:type_of% @Nat.le_trans:=@Nat.le_trans
theorem aQ:type_of% @Go.RowKit.Below.refl:=@Go.RowKit.Below.refl
theorem cQ:type_of% @Prod.mk.injEq:=@Prod.mk.injEq
theorem lQ:type_of% @List.getElem?_eq_some_iff:=@List.getElem?_eq_some_iff
theorem nQ:type_of% @Nat.zero_le:=@Nat.zero_le
theorem qX:type_of% @Nat.lt_of_lt_of_le:=@Nat.lt_of_lt_of_le
theorem vX:type_of% @Option.some.injEq:=@Option.some.injEq
theorem yX:type_of% @List.mem_cons:=@List.mem_cons
theorem uX:type_of% @List.mem_of_getElem?:=@List.mem_of_getElem?
theorem jZ:type_of% @Nat.zero_add:=@Nat.zero_add
theorem dZ:type_of% @List.getElem?_eq_getElem:=@List.getElem?_eq_getElem
theorem kZ:type_of% @List.take_add_one:=@List.take_add_one
theorem mZ:type_of% @Go.World.cell?_of_block:=@Go.World.cell?_of_block
theorem tZ:type_of% @List.mem_map:=@List.mem_map
theorem zJ:type_of% @List.length_append:=@List.length_append
theorem jJ:type_of% @List.not_mem_nil:=@List.not_mem_nil
theorem vJ:type_of% @or_false:=@or_false
theorem bJ:type_of% @Go.IntKind.wrap_i64:=@Go.IntKind.wrap_i64
theorem xV:type_of% @Go.Value.slice.injEq:=@Go.Value.slice.injEq
theorem zV:type_of% @Go.World.frozen?_of_block:=@Go.World.frozen?_of_block
theorem jV:type_of% @Go.wp_region_lit:=@Go.wp_region_lit
theorem eV:type_of% @Go.RowKit.Below.heap_alloc:=@Go.RowKit.Below.heap_alloc
theorem fV:type_of% @List.take_of_length_le:=@List.take_of_length_le
theorem nV:type_of% @decide_eq_false:=@decide_eq_false
theorem oV:type_of% @decide_eq_true_eq:=@decide_eq_true_eq
theorem zY:type_of% @List.mem_append:=@List.mem_append
theorem bY:type_of% @List.length_singleton:=@List.length_singleton
theorem nY:type_of% @List.length_map:=@List.length_map
theorem oY:type_of% @Go.info_parts:=@Go.info_parts
theorem pY:type_of% @Go.wpList_append_lies:=@Go.wpList_append_lies
theorem zU:type_of% @List.drop_eq_getElem_cons:=@List.drop_eq_getElem_cons
theorem jU:type_of% @Array.getElem?_eq_some_iff:=@Array.getElem?_eq_some_iff
theorem lU:type_of% @List.length_take:=@List.length_take
theorem qA:type_of% @beq_eq_false_iff_ne:=@beq_eq_false_iff_ne
theorem xA:type_of% @List.getElem?_map:=@List.getElem?_map
theorem iA:type_of% @Go.Addr.add_lit:=@Go.Addr.add_lit
theorem lA:type_of% @List.getElem?_set_self:=@List.getElem?_set_self
theorem jG:type_of% @Int.eq_ofNat_of_zero_le:=@Int.eq_ofNat_of_zero_le
theorem vG:type_of% @decide_eq_true:=@decide_eq_true
theorem yG:type_of% @List.getElem?_set_ne:=@List.getElem?_set_ne
theorem uG:type_of% @List.map_append:=@List.map_append
theorem aG:type_of% @Nat.add_assoc:=@Nat.add_assoc
theorem bG:type_of% @Go.wpAny_ready:=@Go.wpAny_ready
theorem cG:type_of% @Go.AllReady.cons:=@Go.AllReady.cons
theorem dG:type_of% @Go.AllReady.nil:=@Go.AllReady.nil
theorem qD:type_of% @List.drop_eq_nil_of_le:=@List.drop_eq_nil_of_le
theorem xD:type_of% @List.append_nil:=@List.append_nil
theorem zD:type_of% @if_true:=@if_true
theorem xF:type_of% @Go.DataW.trod_int:=@Go.DataW.trod_int
theorem iF:type_of% @List.length_cons:=@List.length_cons
theorem kF:type_of% @List.getElem?_drop:=@List.getElem?_drop
theorem lF:type_of% @List.mem_of_mem_take:=@List.mem_of_mem_take
theorem mF:type_of% @Go.Addr.mk.injEq:=@Go.Addr.mk.injEq
theorem bH:type_of% @List.drop_of_length_le:=@List.drop_of_length_le
theorem cH:type_of% @of_decide_eq_true:=@of_decide_eq_true
theorem dH:type_of% @List.getElem?_append_right:=@List.getElem?_append_right
theorem eH:type_of% @List.getElem?_take:=@List.getElem?_take
theorem fH:type_of% @List.cons_append:=@List.cons_append
theorem gH:type_of% @Go.World.cell?_alloc_lt:=@Go.World.cell?_alloc_lt
theorem wH:type_of% @List.take_length:=@List.take_length
theorem qI:type_of% @List.map_cons:=@List.map_cons
theorem xI:type_of% @Int.mul_nonneg:=@Int.mul_nonneg
theorem zI:type_of% @Int.le_refl:=@Int.le_refl
theorem jI:type_of% @List.getElem?_take_of_lt:=@List.getElem?_take_of_lt
theorem vI:type_of% @List.getElem?_cons_succ:=@List.getElem?_cons_succ
theorem yI:type_of% @Go.wpList_load_mid:=@Go.wpList_load_mid
theorem uI:type_of% @List.mem_singleton:=@List.mem_singleton
theorem aI:type_of% @List.mem_or_eq_of_mem_set:=@List.mem_or_eq_of_mem_set
theorem wI:type_of% @List.flatMap_cons:=@List.flatMap_cons
theorem qK:type_of% @List.pairwise_cons:=@List.pairwise_cons
theorem xK:type_of% @List.length_eq_zero_iff:=@List.length_eq_zero_iff
theorem zK:type_of% @List.ext_getElem?:=@List.ext_getElem?
theorem jK:type_of% @List.mem_range:=@List.mem_range
theorem vK:type_of% @Go.wpList_append_own:=@Go.wpList_append_own
theorem yK:type_of% @Go.World.cell?_alloc_at:=@Go.World.cell?_alloc_at
theorem uK:type_of% @Nat.sub_self:=@Nat.sub_self
theorem aK:type_of% @Int.mul_assoc:=@Int.mul_assoc
theorem xL:type_of% @Go.RowKit.Below.heap_setCell:=@Go.RowKit.Below.heap_setCell
theorem zL:type_of% @Int.le_trans:=@Int.le_trans
theorem jL:type_of% @if_false:=@if_false
theorem vL:type_of% @List.length_drop:=@List.length_drop
theorem yL:type_of% @List.length_set:=@List.length_set
theorem uL:type_of% @List.getElem?_eq_none:=@List.getElem?_eq_none
theorem aL:type_of% @Int.toNat_natCast:=@Int.toNat_natCast
theorem bL:type_of% @Int.mul_le_mul:=@Int.mul_le_mul
theorem cL:type_of% @Go.Result.andThen_ok:=@Go.Result.andThen_ok
theorem dL:type_of% @Int.pow_succ:=@Int.pow_succ
theorem eL:type_of% @Go.results_none:=@Go.results_none
theorem nM:type_of% @Go.World.cell?_setCell_other:=@Go.World.cell?_setCell_other
theorem oM:type_of% @Go.World.frozen?_setCell:=@Go.World.frozen?_setCell
theorem pM:type_of% @List.mem_flatMap:=@List.mem_flatMap
theorem rM:type_of% @List.drop_zero:=@List.drop_zero
theorem sM:type_of% @List.filter_append:=@List.filter_append
theorem tM:type_of% @List.getElem?_replicate:=@List.getElem?_replicate
theorem wM:type_of% @Bool.and_eq_true:=@Bool.and_eq_true
theorem qN:type_of% @Array.length_toList:=@Array.length_toList
theorem xN:type_of% @Nat.add_zero:=@Nat.add_zero
theorem zN:type_of% @Int.le_of_lt:=@Int.le_of_lt
theorem jN:type_of% @of_decide_eq_false:=@of_decide_eq_false
theorem vN:type_of% @List.mem_cons_of_mem:=@List.mem_cons_of_mem
theorem yN:type_of% @List.mem_cons_self:=@List.mem_cons_self
theorem uN:type_of% @Go.Lib.run_eql_slice_nil:=@Go.Lib.run_eql_slice_nil
theorem aN:type_of% @Go.World.ownsRow_made:=@Go.World.ownsRow_made
theorem yO:type_of% @Int.ediv_nonneg:=@Int.ediv_nonneg
theorem uO:type_of% @Int.ediv_le_self:=@Int.ediv_le_self
theorem aO:type_of% @List.getElem?_append_left:=@List.getElem?_append_left
theorem bO:type_of% @Go.Sem.run_pure:=@Go.Sem.run_pure
theorem cO:type_of% @Nat.eq_zero_or_pos:=@Nat.eq_zero_or_pos
theorem dO:type_of% @Go.World.cell?_spot:=@Go.World.cell?_spot
theorem eO:type_of% @Go.Oper.semAt_some:=@Go.Oper.semAt_some
theorem fO:type_of% @List.all_eq_true:=@List.all_eq_true
theorem gO:type_of% @Option.map_eq_some_iff:=@Option.map_eq_some_iff
theorem iO:type_of% @List.set_append_right:=@List.set_append_right
theorem mO:type_of% @Go.callsD_of_wpS:=@Go.callsD_of_wpS
theorem nO:type_of% @Go.leaves_cons:=@Go.leaves_cons
theorem oO:type_of% @Go.World.grownBy.refl:=@Go.World.grownBy.refl
theorem fR:type_of% @Go.heap_alloc_new:=@Go.heap_alloc_new
theorem gR:type_of% @List.take_append_drop:=@List.take_append_drop
theorem iR:type_of% @Int.mul_le_mul_of_nonneg_right:=@Int.mul_le_mul_of_nonneg_right
theorem lR:type_of% @List.map_congr_left:=@List.map_congr_left
theorem mR:type_of% @Int.natCast_add:=@Int.natCast_add
theorem nR:type_of% @List.eq_of_mem_replicate:=@List.eq_of_mem_replicate
theorem oR:type_of% @List.getElem?_cons_zero:=@List.getElem?_cons_zero
theorem pR:type_of% @Go.World.frozen?_alloc_at:=@Go.World.frozen?_alloc_at
theorem rR:type_of% @List.map_eq_nil_iff:=@List.map_eq_nil_iff
theorem sR:type_of% @List.filter_eq_nil_iff:=@List.filter_eq_nil_iff
theorem tC:type_of% @List.mem_of_mem_drop:=@List.mem_of_mem_drop
theorem wC:type_of% @Go.wpList_append_own_at:=@Go.wpList_append_own_at
theorem xE:type_of% @List.pairwise_append:=@List.pairwise_append
theorem zE:type_of% @Go.heap_alloc_last:=@Go.heap_alloc_last
theorem jE:type_of% @Go.toList_madeCells_one:=@Go.toList_madeCells_one
theorem emQ {p:Prop} (h:p):Go.RowKit.Hid p:=h
end Go.Proofs.YtdceajgpolckiaaGreatDoor
