import Derived.Test.YtpmioeamdhdokaaGreatChecked
import Derived.Below
import Derived.Below
import Derived.CallsIn
import Derived.ChangeArms
import Derived.DataReads
import Derived.Deep.AppendLies
import Derived.Deep.MidRow
import Derived.Deep.WholeRow
import Derived.Defers
import Derived.Laws.AppendOwn
import Derived.Laws.BitsLemmas
import Derived.Laws.Entries
import Derived.Laws.NewBlocks
import Derived.Laws.Rows
import Derived.Laws.Sem
import Derived.Laws.World
import Derived.Lib.OwnKind
import Derived.Lib.SliceRun
import Derived.Maps.AppendAt
import Derived.OpenShut
import Derived.OwnWalk
import Derived.RangeFuncBox
import Derived.RangeFuncRecord
import Derived.Recover
import Derived.RegionTactic
import Derived.Tactics
import Derived.TacticsIn
import GoSem.Core.Value
namespace Go.Proofs.YtpmioeamdhdokaaGreat
theorem xQ:type_of% @if_neg:=@if_neg
theorem zQ:type_of% @if_pos:=@if_pos
theorem vQ:type_of% @Nat.le_refl:=@Nat.le_refl
theorem uQ:type_of% @Go.bodyPost_ret:=@Go.bodyPost_ret
theorem aQ:type_of% @Go.RowKit.Below.refl:=@Go.RowKit.Below.refl
theorem bQ:type_of% @Nat.le_trans:=@Nat.le_trans
theorem cQ:type_of% @List.getElem?_eq_some_iff:=@List.getElem?_eq_some_iff
theorem dQ:type_of% @Prod.mk.injEq:=@Prod.mk.injEq
theorem kQ:type_of% @Nat.zero_le:=@Nat.zero_le
theorem rQ:type_of% @List.mem_of_getElem?:=@List.mem_of_getElem?
theorem xX:type_of% @Option.some.injEq:=@Option.some.injEq
theorem uX:type_of% @Nat.lt_of_lt_of_le:=@Nat.lt_of_lt_of_le
theorem eX:type_of% @List.mem_cons:=@List.mem_cons
theorem wX:type_of% @List.mem_map:=@List.mem_map
theorem xZ:type_of% @Nat.zero_add:=@Nat.zero_add
theorem gZ:type_of% @List.take_add_one:=@List.take_add_one
theorem iZ:type_of% @Go.Value.slice.injEq:=@Go.Value.slice.injEq
theorem oZ:type_of% @Go.World.cell?_of_block:=@Go.World.cell?_of_block
theorem zJ:type_of% @Array.getElem?_eq_some_iff:=@Array.getElem?_eq_some_iff
theorem bJ:type_of% @List.length_append:=@List.length_append
theorem gJ:type_of% @List.drop_eq_getElem_cons:=@List.drop_eq_getElem_cons
theorem iJ:type_of% @List.getElem?_eq_getElem:=@List.getElem?_eq_getElem
theorem oJ:type_of% @List.length_cons:=@List.length_cons
theorem pJ:type_of% @List.take_of_length_le:=@List.take_of_length_le
theorem rJ:type_of% @Go.info_parts:=@Go.info_parts
theorem sJ:type_of% @Go.World.frozen?_of_block:=@Go.World.frozen?_of_block
theorem zV:type_of% @Nat.add_assoc:=@Nat.add_assoc
theorem fV:type_of% @List.map_cons:=@List.map_cons
theorem gV:type_of% @List.mem_append:=@List.mem_append
theorem oV:type_of% @decide_eq_false:=@decide_eq_false
theorem qY:type_of% @decide_eq_true_eq:=@decide_eq_true_eq
theorem vY:type_of% @List.map_append:=@List.map_append
theorem fY:type_of% @List.drop_eq_nil_of_le:=@List.drop_eq_nil_of_le
theorem iY:type_of% @List.pairwise_cons:=@List.pairwise_cons
theorem yU:type_of% @List.append_nil:=@List.append_nil
theorem uU:type_of% @if_true:=@if_true
theorem aU:type_of% @Go.IntKind.wrap_i64:=@Go.IntKind.wrap_i64
theorem nU:type_of% @Go.Addr.add_lit:=@Go.Addr.add_lit
theorem wU:type_of% @List.length_map:=@List.length_map
theorem qA:type_of% @Go.callsIn_wide:=@Go.callsIn_wide
theorem cA:type_of% @Int.eq_ofNat_of_zero_le:=@Int.eq_ofNat_of_zero_le
theorem dA:type_of% @List.getElem?_map:=@List.getElem?_map
theorem eA:type_of% @Int.mul_nonneg:=@Int.mul_nonneg
theorem nA:type_of% @beq_eq_false_iff_ne:=@beq_eq_false_iff_ne
theorem oA:type_of% @Nat.add_zero:=@Nat.add_zero
theorem pA:type_of% @List.cons_append:=@List.cons_append
theorem qG:type_of% @List.length_nil:=@List.length_nil
theorem xG:type_of% @decide_eq_true:=@decide_eq_true
theorem zG:type_of% @Int.le_refl:=@Int.le_refl
theorem jG:type_of% @Go.Addr.mk.injEq:=@Go.Addr.mk.injEq
theorem fG:type_of% @List.getElem?_set_self:=@List.getElem?_set_self
theorem gG:type_of% @Go.wpAny_ready:=@Go.wpAny_ready
theorem iG:type_of% @Go.AllReady.cons:=@Go.AllReady.cons
theorem kG:type_of% @Go.AllReady.nil:=@Go.AllReady.nil
theorem uD:type_of% @Go.results_none:=@Go.results_none
theorem wD:type_of% @List.take_length:=@List.take_length
theorem qF:type_of% @List.getElem?_append_right:=@List.getElem?_append_right
theorem xF:type_of% @List.getElem?_set_ne:=@List.getElem?_set_ne
theorem zF:type_of% @List.not_mem_nil:=@List.not_mem_nil
theorem jF:type_of% @or_false:=@or_false
theorem vF:type_of% @Go.wp_region_lit:=@Go.wp_region_lit
theorem yF:type_of% @Int.le_of_lt:=@Int.le_of_lt
theorem tF:type_of% @Go.DataW.trod_int:=@Go.DataW.trod_int
theorem qH:type_of% @of_decide_eq_true:=@of_decide_eq_true
theorem xH:type_of% @List.length_eq_zero_iff:=@List.length_eq_zero_iff
theorem zH:type_of% @List.mem_range:=@List.mem_range
theorem jH:type_of% @List.mem_of_mem_take:=@List.mem_of_mem_take
theorem vH:type_of% @List.length_singleton:=@List.length_singleton
theorem yH:type_of% @Go.World.cell?_alloc_lt:=@Go.World.cell?_alloc_lt
theorem xI:type_of% @List.getElem?_take_of_lt:=@List.getElem?_take_of_lt
theorem zI:type_of% @Prod.ext:=@Prod.ext
theorem jI:type_of% @Nat.zero_mul:=@Nat.zero_mul
theorem wI:type_of% @List.drop_of_length_le:=@List.drop_of_length_le
theorem qK:type_of% @if_false:=@if_false
theorem xK:type_of% @Int.mul_le_mul_of_nonneg_right:=@Int.mul_le_mul_of_nonneg_right
theorem zK:type_of% @List.getElem?_drop:=@List.getElem?_drop
theorem jK:type_of% @Bool.and_eq_true:=@Bool.and_eq_true
theorem vK:type_of% @Int.toNat_natCast:=@Int.toNat_natCast
theorem yK:type_of% @Go.Result.andThen_ok:=@Go.Result.andThen_ok
theorem uK:type_of% @List.mem_or_eq_of_mem_set:=@List.mem_or_eq_of_mem_set
theorem wK:type_of% @Int.mul_pos:=@Int.mul_pos
theorem qL:type_of% @List.getElem?_take:=@List.getElem?_take
theorem xL:type_of% @Go.wpList_append_own:=@Go.wpList_append_own
theorem zL:type_of% @List.length_take:=@List.length_take
theorem jL:type_of% @Go.World.putObj_heap_other:=@Go.World.putObj_heap_other
theorem tL:type_of% @Go.RowKit.Below.heap_setCell:=@Go.RowKit.Below.heap_setCell
theorem wL:type_of% @Go.RowKit.Below.heap_alloc:=@Go.RowKit.Below.heap_alloc
theorem qM:type_of% @Go.World.alloc_heap_new:=@Go.World.alloc_heap_new
theorem xM:type_of% @Nat.eq_zero_or_pos:=@Nat.eq_zero_or_pos
theorem zM:type_of% @Go.wpList_load_mid:=@Go.wpList_load_mid
theorem jM:type_of% @List.all_eq_true:=@List.all_eq_true
theorem vM:type_of% @List.append_assoc:=@List.append_assoc
theorem yM:type_of% @of_decide_eq_false:=@of_decide_eq_false
theorem uM:type_of% @Int.mul_assoc:=@Int.mul_assoc
theorem aM:type_of% @Go.World.grownBy.refl:=@Go.World.grownBy.refl
theorem uN:type_of% @Go.World.grownBy_alloc:=@Go.World.grownBy_alloc
theorem aN:type_of% @Int.le_trans:=@Int.le_trans
theorem bN:type_of% @Int.ediv_le_self:=@Int.ediv_le_self
theorem cN:type_of% @List.flatMap_cons:=@List.flatMap_cons
theorem dN:type_of% @List.mem_flatMap:=@List.mem_flatMap
theorem eN:type_of% @Go.Sem.run_pure:=@Go.Sem.run_pure
theorem fN:type_of% @List.length_set:=@List.length_set
theorem gN:type_of% @Go.World.cell?_spot:=@Go.World.cell?_spot
theorem iN:type_of% @Go.World.cell?_alloc_at:=@Go.World.cell?_alloc_at
theorem mN:type_of% @Go.Oper.semAt_some:=@Go.Oper.semAt_some
theorem nN:type_of% @Int.mul_le_mul:=@Int.mul_le_mul
theorem oN:type_of% @Nat.sub_self:=@Nat.sub_self
theorem rN:type_of% @Int.pow_succ:=@Int.pow_succ
theorem sN:type_of% @and_true:=@and_true
theorem tN:type_of% @Go.Boxed.new:=@Go.Boxed.new
theorem vP:type_of% @Go.World.size_alloc:=@Go.World.size_alloc
theorem yP:type_of% @Int.ediv_nonneg:=@Int.ediv_nonneg
theorem uP:type_of% @List.length_drop:=@List.length_drop
theorem aP:type_of% @Int.add_mul:=@Int.add_mul
theorem bP:type_of% @List.drop_zero:=@List.drop_zero
theorem cP:type_of% @List.ext_getElem?:=@List.ext_getElem?
theorem dP:type_of% @List.map_nil:=@List.map_nil
theorem eP:type_of% @Array.length_toList:=@Array.length_toList
theorem fP:type_of% @List.mem_singleton:=@List.mem_singleton
theorem gP:type_of% @List.nil_append:=@List.nil_append
theorem iP:type_of% @List.set_append_right:=@List.set_append_right
theorem lP:type_of% @List.mem_cons_of_mem:=@List.mem_cons_of_mem
theorem mP:type_of% @List.mem_cons_self:=@List.mem_cons_self
theorem nP:type_of% @Go.Lib.run_eql_slice_nil:=@Go.Lib.run_eql_slice_nil
theorem oP:type_of% @Go.World.ownsRow_made:=@Go.World.ownsRow_made
theorem mS:type_of% @Go.World.cell?_setCell_other:=@Go.World.cell?_setCell_other
theorem nS:type_of% @Go.World.frozen?_setCell:=@Go.World.frozen?_setCell
theorem oS:type_of% @List.take_append_drop:=@List.take_append_drop
theorem pS:type_of% @List.filter_append:=@List.filter_append
theorem rS:type_of% @List.getElem?_eq_none:=@List.getElem?_eq_none
theorem sS:type_of% @Int.natCast_add:=@Int.natCast_add
theorem tS:type_of% @List.eq_of_mem_replicate:=@List.eq_of_mem_replicate
theorem wS:type_of% @Option.map_eq_some_iff:=@Option.map_eq_some_iff
theorem qT:type_of% @Go.Sem.run_bind:=@Go.Sem.run_bind
theorem xT:type_of% @Go.callsD_of_wpS:=@Go.callsD_of_wpS
theorem zT:type_of% @Go.leaves_cons:=@Go.leaves_cons
theorem jT:type_of% @Go.Lib.ownsRow_kind:=@Go.Lib.ownsRow_kind
theorem rC:type_of% @Go.heap_alloc_new:=@Go.heap_alloc_new
theorem sC:type_of% @List.pairwise_map:=@List.pairwise_map
theorem wC:type_of% @List.mem_of_mem_drop:=@List.mem_of_mem_drop
theorem qE:type_of% @Int.ediv_pos_of_pos_of_dvd:=@Int.ediv_pos_of_pos_of_dvd
theorem xE:type_of% @Go.trodAll_cons_mk:=@Go.trodAll_cons_mk
theorem zE:type_of% @List.getElem?_append_left:=@List.getElem?_append_left
theorem jE:type_of% @Go.wpList_append_own_at:=@Go.wpList_append_own_at
theorem vE:type_of% @List.mem_filter:=@List.mem_filter
theorem yE:type_of% @List.map_congr_left:=@List.map_congr_left
theorem uE:type_of% @Go.wpList_append_lies:=@Go.wpList_append_lies
theorem aE:type_of% @Go.run_underlying:=@Go.run_underlying
theorem bE:type_of% @Int.mul_le_mul_of_nonneg_left:=@Int.mul_le_mul_of_nonneg_left
theorem cE:type_of% @Int.natCast_mul:=@Int.natCast_mul
theorem dE:type_of% @List.length_pos_iff:=@List.length_pos_iff
theorem eE:type_of% @List.size_toArray:=@List.size_toArray
theorem fE:type_of% @Array.replicate_succ:=@Array.replicate_succ
theorem gE:type_of% @Array.replicate_zero:=@Array.replicate_zero
theorem iE:type_of% @List.push_toArray:=@List.push_toArray
theorem kE:type_of% @List.append_toArray:=@List.append_toArray
theorem lE:type_of% @Go.World.frozen?_alloc_at:=@Go.World.frozen?_alloc_at
theorem mE:type_of% @Go.grownBy_setCell':=@Go.grownBy_setCell'
theorem oE:type_of% @List.map_eq_nil_iff:=@List.map_eq_nil_iff
theorem pE:type_of% @List.filter_eq_nil_iff:=@List.filter_eq_nil_iff
theorem rE:type_of% @Go.World.putObj_heap_same:=@Go.World.putObj_heap_same
theorem amZ:type_of% @Int.mul_ediv_cancel':=@Int.mul_ediv_cancel'
theorem anQ:type_of% @List.pairwise_append:=@List.pairwise_append
theorem anX:type_of% @List.mem_map_of_mem:=@List.mem_map_of_mem
theorem anZ:type_of% @List.eq_nil_of_length_eq_zero:=@List.eq_nil_of_length_eq_zero
theorem aoX:type_of% @Go.World.setRow_alloc_new:=@Go.World.setRow_alloc_new
theorem aoZ:type_of% @Classical.byContradiction:=@Classical.byContradiction
theorem qQ {p:Prop} (h:p):Go.RowKit.Hid p:=h
end Go.Proofs.YtpmioeamdhdokaaGreat
