import Derived.Test.YtdceajgpolckiaaGreatDoorChecked
import Derived.Below
import Derived.Below
import Derived.ChangeArms
import Derived.DataReads
import Derived.Deep.AppendLies
import Derived.Deep.MidRow
import Derived.Defers
import Derived.Laws.AppendOwn
import Derived.Laws.BitsLemmas
import Derived.Laws.Entries
import Derived.Laws.NewBlocks
import Derived.Laws.Rows
import Derived.Laws.Sem
import Derived.Laws.World
import Derived.Lib.SliceRun
import Derived.Maps.AppendAt
import Derived.OwnWalk
import Derived.Recover
import Derived.RegionTactic
import Derived.Tactics
import Derived.TacticsIn
import GoSem.Core.Value
namespace Go.Proofs.YtdceajgpolckiaaGreatDoor
theorem qQ:type_of% @if_neg:=@if_neg
theorem zQ:type_of% @if_pos:=@if_pos
theorem jQ:type_of% @Nat.le_refl:=@Nat.le_refl
theorem yQ:type_of% @Go.bodyPost_ret:=@Go.bodyPost_ret
theorem uQ:type_of% @Go.RowKit.Below.refl:=@Go.RowKit.Below.refl
theorem aQ:type_of% @Nat.le_trans:=@Nat.le_trans
theorem cQ:type_of% @Prod.mk.injEq:=@Prod.mk.injEq
theorem gQ:type_of% @List.getElem?_eq_some_iff:=@List.getElem?_eq_some_iff
theorem mQ:type_of% @Nat.zero_le:=@Nat.zero_le
theorem zX:type_of% @Nat.lt_of_lt_of_le:=@Nat.lt_of_lt_of_le
theorem vX:type_of% @List.mem_of_getElem?:=@List.mem_of_getElem?
theorem kX:type_of% @List.mem_cons:=@List.mem_cons
theorem oX:type_of% @Nat.zero_add:=@Nat.zero_add
theorem sX:type_of% @Option.some.injEq:=@Option.some.injEq
theorem dZ:type_of% @Go.World.cell?_of_block:=@Go.World.cell?_of_block
theorem fZ:type_of% @List.getElem?_eq_getElem:=@List.getElem?_eq_getElem
theorem nZ:type_of% @List.take_add_one:=@List.take_add_one
theorem yJ:type_of% @List.mem_map:=@List.mem_map
theorem uJ:type_of% @Go.World.frozen?_of_block:=@Go.World.frozen?_of_block
theorem eJ:type_of% @Go.Value.slice.injEq:=@Go.Value.slice.injEq
theorem kJ:type_of% @List.not_mem_nil:=@List.not_mem_nil
theorem lJ:type_of% @or_false:=@or_false
theorem oJ:type_of% @decide_eq_true_eq:=@decide_eq_true_eq
theorem zV:type_of% @List.drop_eq_getElem_cons:=@List.drop_eq_getElem_cons
theorem dV:type_of% @decide_eq_false:=@decide_eq_false
theorem eV:type_of% @List.take_of_length_le:=@List.take_of_length_le
theorem uY:type_of% @List.mem_append:=@List.mem_append
theorem aY:type_of% @Go.wp_region_lit:=@Go.wp_region_lit
theorem mY:type_of% @Array.getElem?_eq_some_iff:=@Array.getElem?_eq_some_iff
theorem nY:type_of% @Go.info_parts:=@Go.info_parts
theorem sY:type_of% @Go.IntKind.wrap_i64:=@Go.IntKind.wrap_i64
theorem yU:type_of% @beq_eq_false_iff_ne:=@beq_eq_false_iff_ne
theorem uU:type_of% @Go.RowKit.Below.heap_alloc:=@Go.RowKit.Below.heap_alloc
theorem aU:type_of% @Int.eq_ofNat_of_zero_le:=@Int.eq_ofNat_of_zero_le
theorem bU:type_of% @List.length_map:=@List.length_map
theorem cU:type_of% @List.getElem?_set_self:=@List.getElem?_set_self
theorem dU:type_of% @List.length_take:=@List.length_take
theorem oU:type_of% @List.getElem?_set_ne:=@List.getElem?_set_ne
theorem pU:type_of% @Go.wpList_append_lies:=@Go.wpList_append_lies
theorem yA:type_of% @List.length_append:=@List.length_append
theorem uA:type_of% @List.drop_eq_nil_of_le:=@List.drop_eq_nil_of_le
theorem aA:type_of% @Go.Addr.add_lit:=@Go.Addr.add_lit
theorem bA:type_of% @Nat.add_assoc:=@Nat.add_assoc
theorem cA:type_of% @Go.wpAny_ready:=@Go.wpAny_ready
theorem dA:type_of% @Go.AllReady.cons:=@Go.AllReady.cons
theorem eA:type_of% @Go.AllReady.nil:=@Go.AllReady.nil
theorem vG:type_of% @List.getElem?_map:=@List.getElem?_map
theorem yG:type_of% @List.append_nil:=@List.append_nil
theorem uG:type_of% @decide_eq_true:=@decide_eq_true
theorem aG:type_of% @List.map_append:=@List.map_append
theorem oG:type_of% @if_true:=@if_true
theorem zD:type_of% @Int.mul_assoc:=@Int.mul_assoc
theorem nD:type_of% @List.length_cons:=@List.length_cons
theorem oD:type_of% @Int.le_refl:=@Int.le_refl
theorem pD:type_of% @Go.DataW.trod_int:=@Go.DataW.trod_int
theorem rD:type_of% @List.mem_of_mem_take:=@List.mem_of_mem_take
theorem sD:type_of% @Go.Addr.mk.injEq:=@Go.Addr.mk.injEq
theorem gF:type_of% @List.drop_of_length_le:=@List.drop_of_length_le
theorem iF:type_of% @List.getElem?_drop:=@List.getElem?_drop
theorem kF:type_of% @List.cons_append:=@List.cons_append
theorem lF:type_of% @Go.World.cell?_alloc_lt:=@Go.World.cell?_alloc_lt
theorem aH:type_of% @Int.le_trans:=@Int.le_trans
theorem bH:type_of% @List.map_cons:=@List.map_cons
theorem cH:type_of% @List.pairwise_cons:=@List.pairwise_cons
theorem dH:type_of% @Int.mul_nonneg:=@Int.mul_nonneg
theorem eH:type_of% @of_decide_eq_true:=@of_decide_eq_true
theorem fH:type_of% @List.getElem?_append_right:=@List.getElem?_append_right
theorem gH:type_of% @List.getElem?_take_of_lt:=@List.getElem?_take_of_lt
theorem iH:type_of% @List.getElem?_take:=@List.getElem?_take
theorem lH:type_of% @Int.pow_succ:=@Int.pow_succ
theorem mH:type_of% @List.mem_or_eq_of_mem_set:=@List.mem_or_eq_of_mem_set
theorem bI:type_of% @List.ext_getElem?:=@List.ext_getElem?
theorem cI:type_of% @List.getElem?_eq_none:=@List.getElem?_eq_none
theorem dI:type_of% @List.length_singleton:=@List.length_singleton
theorem eI:type_of% @Go.wpList_append_own:=@Go.wpList_append_own
theorem fI:type_of% @Int.mul_le_mul:=@Int.mul_le_mul
theorem gI:type_of% @Go.Result.andThen_ok:=@Go.Result.andThen_ok
theorem iI:type_of% @Nat.sub_self:=@Nat.sub_self
theorem yK:type_of% @if_false:=@if_false
theorem uK:type_of% @List.length_drop:=@List.length_drop
theorem aK:type_of% @List.drop_zero:=@List.drop_zero
theorem bK:type_of% @List.length_eq_zero_iff:=@List.length_eq_zero_iff
theorem cK:type_of% @List.length_set:=@List.length_set
theorem dK:type_of% @Int.toNat_natCast:=@Int.toNat_natCast
theorem eK:type_of% @Nat.add_zero:=@Nat.add_zero
theorem fK:type_of% @Go.results_none:=@Go.results_none
theorem lL:type_of% @Go.RowKit.Below.heap_setCell:=@Go.RowKit.Below.heap_setCell
theorem mL:type_of% @Int.ediv_nonneg:=@Int.ediv_nonneg
theorem nL:type_of% @Int.ediv_le_self:=@Int.ediv_le_self
theorem oL:type_of% @List.flatMap_cons:=@List.flatMap_cons
theorem pL:type_of% @List.take_length:=@List.take_length
theorem rL:type_of% @List.filter_append:=@List.filter_append
theorem sL:type_of% @Go.Sem.run_pure:=@Go.Sem.run_pure
theorem tL:type_of% @Array.length_toList:=@Array.length_toList
theorem wL:type_of% @of_decide_eq_false:=@of_decide_eq_false
theorem qM:type_of% @and_true:=@and_true
theorem xM:type_of% @List.mem_cons_of_mem:=@List.mem_cons_of_mem
theorem zM:type_of% @List.mem_cons_self:=@List.mem_cons_self
theorem jM:type_of% @Go.Lib.run_eql_slice_nil:=@Go.Lib.run_eql_slice_nil
theorem vM:type_of% @Go.World.ownsRow_made:=@Go.World.ownsRow_made
theorem vN:type_of% @Go.World.cell?_setCell_other:=@Go.World.cell?_setCell_other
theorem yN:type_of% @Go.World.frozen?_setCell:=@Go.World.frozen?_setCell
theorem uN:type_of% @List.getElem?_append_left:=@List.getElem?_append_left
theorem aN:type_of% @List.mem_range:=@List.mem_range
theorem bN:type_of% @List.getElem?_replicate:=@List.getElem?_replicate
theorem cN:type_of% @Bool.and_eq_true:=@Bool.and_eq_true
theorem dN:type_of% @Go.World.cell?_alloc_at:=@Go.World.cell?_alloc_at
theorem eN:type_of% @List.mem_singleton:=@List.mem_singleton
theorem fN:type_of% @Int.le_of_lt:=@Int.le_of_lt
theorem gN:type_of% @Int.natCast_add:=@Int.natCast_add
theorem iN:type_of% @Go.Oper.semAt_some:=@Go.Oper.semAt_some
theorem mN:type_of% @List.all_eq_true:=@List.all_eq_true
theorem nN:type_of% @List.set_append_right:=@List.set_append_right
theorem oN:type_of% @Go.callsD_of_wpS:=@Go.callsD_of_wpS
theorem pN:type_of% @Go.leaves_cons:=@Go.leaves_cons
theorem rN:type_of% @Go.World.grownBy.refl:=@Go.World.grownBy.refl
theorem zR:type_of% @Go.heap_alloc_new:=@Go.heap_alloc_new
theorem vR:type_of% @List.mem_flatMap:=@List.mem_flatMap
theorem yR:type_of% @Int.mul_le_mul_of_nonneg_right:=@Int.mul_le_mul_of_nonneg_right
theorem uR:type_of% @List.map_congr_left:=@List.map_congr_left
theorem aR:type_of% @Nat.eq_zero_or_pos:=@Nat.eq_zero_or_pos
theorem bR:type_of% @Go.World.cell?_spot:=@Go.World.cell?_spot
theorem cR:type_of% @Go.wpList_load_mid:=@Go.wpList_load_mid
theorem dR:type_of% @Option.map_eq_some_iff:=@Option.map_eq_some_iff
theorem eR:type_of% @Nat.pow_succ:=@Nat.pow_succ
theorem fR:type_of% @List.getElem?_cons_zero:=@List.getElem?_cons_zero
theorem gR:type_of% @Nat.zero_mul:=@Nat.zero_mul
theorem iR:type_of% @Go.World.frozen?_alloc_at:=@Go.World.frozen?_alloc_at
theorem lR:type_of% @List.map_eq_nil_iff:=@List.map_eq_nil_iff
theorem mR:type_of% @List.filter_eq_nil_iff:=@List.filter_eq_nil_iff
theorem xC:type_of% @List.take_append_drop:=@List.take_append_drop
theorem jC:type_of% @List.mem_of_mem_drop:=@List.mem_of_mem_drop
theorem yC:type_of% @Go.wpList_append_own_at:=@Go.wpList_append_own_at
theorem aC:type_of% @List.pairwise_append:=@List.pairwise_append
theorem bC:type_of% @List.getElem?_cons_succ:=@List.getElem?_cons_succ
theorem dC:type_of% @List.eq_of_mem_replicate:=@List.eq_of_mem_replicate
theorem eC:type_of% @List.append_assoc:=@List.append_assoc
theorem xR {p:Prop} (h:p):Go.RowKit.Hid p:=h
end Go.Proofs.YtdceajgpolckiaaGreatDoor
