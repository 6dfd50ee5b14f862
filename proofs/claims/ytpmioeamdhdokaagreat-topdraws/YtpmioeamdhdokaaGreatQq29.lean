import Derived.Test.YtpmioeamdhdokaaGreatQq28
import Derived.Laws.CopyOwn
import Derived.RangeFuncNested
import Derived.RangeFuncBound
import Derived.RangeFuncCalls
import Derived.RangeFuncLeaves
import Derived.Shelf.Abstract
import Derived.Shelf.RegionOpen
import Derived.OwnWalkIn
import Derived.TacticsInMore
import Derived.LoopNIn
import Derived.LoopIn
import Derived.OrdersHeld
import Derived.OrdersIn
import Derived.Test.YtpmioeamdhdokaaGreatQq25
import Derived.Laws.StructEq
import Derived.RangeFuncBox
import Derived.Deep.RegionLaw
import Derived.Laws.IdiomStrings
namespace Go.Proofs.YtpmioeamdhdokaaGreat.K.P
open Go.RowKit Go.Proofs.YtpmioeamdhdokaaGreat.K.Ds
set_option maxHeartbeats 1000000 in
theorem new_any (N:Nat→Prop) (w:World) (hN:∀ k,w.heap.size≤k→N k):Calls Tryz.prog 52 #[] w fun x w'=>x=.returned (.pointer (some ⟨w.heap.size + 1,0,none⟩))∧Below w.heap.size w w'∧w'.heap.size=w.heap.size + 1 + 1∧BookM w' N (w.heap.size + 1) w.heap.size 0 (.slice none 0 0) (.map []) []:=by
 have hmm:=@run_makeMap Tryz.prog
 go_enter Tryz.func52,Tryz.ntmps52
 go_wp2
 go_ret
 refine ⟨rfl,bal (ba _ _) _,by simp,⟨inv_nil,?_,?_,?_,Nat.le_refl _,fun x=>?_,fun x b hx=>?_,?_,hN _ (by omega),hN _ (by omega),by omega,fun g hg=>by cases hg⟩⟩
 ·exact TwoB.new _ _ _ _ _ (by simp)
 ·exact (World.ownsMap_made w Tryz.prog 9 hR).alloc _
 ·exact ⟨rfl,.inl ⟨rfl,rfl⟩⟩
 ·simp [Maps.has,budT]
 ·simp [budT] at hx
 ·simp [Maps.size,opsT]
theorem run_copy5 (w:World) (ty:TypeId) (g n:Nat) (a:Addr) (sCap:Nat) (cur:Array Value) (cs:List Value) (hg:w.heap[g]? = some (.cells cur 59 (0,0))) (hn:cs.length=n * 5)
  (hsrc:∀ j v,cs[j]? = some v→w.cell? (a.add j)=some v) (hfit:cs.length≤cur.size) (h1:∀ v∈cs,v.oneCell' = true) :
  (Builtin.copy_ #[40,40] ty #[.slice (some ⟨g,0,none⟩) n n,.slice (some a) n sCap]).run Tryz.prog w=.ok (goInt n) (w.setRow g (cs ++ cur.toList.drop cs.length).toArray):=by
 have hl:=run_loadCells_list (P:=Tryz.prog) w a cs hsrc
 have hst:=run_storeCells_at Tryz.prog g 0 59 cs 0 cur w hg (by simpa using hfit) h1
 obtain ⟨i0,hi,_,hz1,_⟩:=info_parts info33
 have hm:Nat.min n n=n:=Nat.min_self n
 simp only [Nat.zero_add,Nat.add_zero,List.take_zero,List.nil_append] at hst
 simp [Builtin.copy_,run_underlying Tryz.underlying40,Builtin.lenOf,Builtin.firstCells,sizeOf,typeInfo,hi,hz1,← hn,hl,hst]
theorem run_copy5' (w:World) (ty:TypeId) (g n:Nat) (ad:Option Addr) (sCap:Nat) (cur:Array Value) (hg:w.heap[g]? = some (.cells cur 59 (0,0))) (cs:List Value) (hn:cs.length=n * 5) (hsrc:(ad=none∧n=0∧sCap=0)∨∃ b,ad=some b∧∀ j v,cs[j]? = some v→w.cell? (b.add j)=some v) (hfit:cs.length=cur.size) (h1:∀ v∈cs,v.oneCell' = true) :
  (Builtin.copy_ #[40,40] ty #[.slice (some ⟨g,0,none⟩) n n,.slice ad n sCap]).run Tryz.prog w=.ok (goInt n) (w.setRow g cs.toArray):=by
 rcases hsrc with ⟨rfl,rfl,rfl⟩ | ⟨b,rfl,hsrc⟩
 ·have hrun:=run_copy_nil (P:=Tryz.prog) w 40 40 ty 59 ⟨g,0,none⟩ 0 0 Tryz.underlying40 (by obtain ⟨i0,hi,_⟩:=info_parts info33; rw [hi]; rfl)
  have hcs:cs=[]:=List.eq_nil_of_length_eq_zero (by omega)
  subst hcs
  have hcur:cur = #[]:=Array.eq_empty_of_size_eq_zero (by simpa using hfit.symm)
  subst hcur
  rw [show ([]:List Value).toArray = #[] from rfl,setRow_self w g #[] 59 (0,0) hg]
  exact hrun
 ·have hrun:=run_copy5 w ty g n b sCap cur cs hg hn hsrc (by omega) h1
  rw [List.drop_of_length_le (by rw [Array.length_toList]; omega),List.append_nil] at hrun
  exact hrun
theorem enc_one (l:List En):∀ v∈enc l,v.oneCell' = true:=by
 intro v hv
 simp only [enc,List.mem_flatMap] at hv
 obtain ⟨e,_,he⟩:=hv
 simp [encE] at he
 rcases he with rfl | rfl | rfl | rfl | rfl <;> rfl
theorem row_src {w:World} {v:Value} {n:Nat} {xs:List Value} {base:Nat} (h:w.ownsRow base 59 5 v n xs):∃ ad c,v=.slice ad n c∧((ad=none∧n=0∧c=0)∨∃ b,ad=some b∧∀ j u,xs[j]? = some u→w.cell? (b.add j)=some u):=by
 rcases h.2 with ⟨rfl,rfl⟩ | ⟨g,cap,cur,rfl,_,hc,_,_,_,hx⟩
 ·exact ⟨none,0,rfl,.inl ⟨rfl,rfl,rfl⟩⟩
 ·refine ⟨_,_,rfl,.inr ⟨_,rfl,fun j u hj=>?_⟩⟩
  refine World.news_of_block hc j u ?_
  rw [← hx] at hj
  rw [List.getElem?_take] at hj
  split at hj
  ·exact hj
  ·cases hj
set_option maxHeartbeats 1000000 in
set_option maxRecDepth 100000 in
theorem entries_any (N:Nat→Prop) (bk bm n:Nat) (v:Value) (D:DataW Value) (done:List En) (w:World) (hB:BookM w N bk bm n v D done) :
  Calls Tryz.prog 58 #[.pointer (some ⟨bk,0,none⟩)] w fun x w'=>∃ r,x=.returned r∧w'.ownsRow w.heap.size 59 5 r done.length (enc done)∧Below w.heap.size w w':=by
 obtain ⟨t0,t1,tf0,tf1,htl⟩:=hB.two
 have hrow:=hB.row
 have hlen:=hB.inv.len
 clear hB
 obtain ⟨ad,c,rfl,hsrc⟩:=row_src hrow
 obtain ⟨i0,hi,hz0,hz1,hz2⟩:=info_parts info33
 have hmk:∀ u:World,(Instr.makeSlice 40 (.int .i64 (done.length:Int)) (.int .i64 (done.length:Int))).run Tryz.prog u =
   .ok (.slice (some ⟨u.heap.size,0,none⟩) done.length done.length) (u.alloc (.cells (madeCells #[.int .i64 0,.string ⟨#[]⟩,.int .i64 0,.int .i64 0,.int .i64 0] (done.length * 5)) 59)):=fun u=>by
  have h:=run_make (P:=Tryz.prog) u 40 59 i0 (.agg #[.int .i64 0,.string ⟨#[]⟩,.int .i64 0,.int .i64 0,.int .i64 0]) Tryz.underlying40 hi hz0 .i64 .i64 (done.length:Int) (done.length:Int) (by omega) (Int.le_refl _) (by rw [hz2]; omega) (by omega)
  rw [Int.toNat_natCast] at h
  simpa [hz1,Value.cells] using h
 have HS:Hid ((ad=none∧done.length=0∧c=0)∨∃ b,ad=some b∧∀ j u,(enc done)[j]? = some u→(w.alloc (.cells (madeCells #[.int .i64 0,.string ⟨#[]⟩,.int .i64 0,.int .i64 0,.int .i64 0] (done.length * 5)) 59)).cell? (b.add j)=some u):=by
  rcases hsrc with h | ⟨b,h1,h2⟩
  ·exact .inl h
  ·exact .inr ⟨b,h1,fun j u hj=>(World.grownBy_alloc w _ none).cell (h2 j u hj) (by simp)⟩
 have hcp:=run_copy5' (w.alloc (.cells (madeCells #[.int .i64 0,.string ⟨#[]⟩,.int .i64 0,.int .i64 0,.int .i64 0] (done.length * 5)) 59)) 3 w.heap.size done.length ad c _ (heap_alloc_new w _) (enc done) (enc_len done) HS.out (by simp [enc_len,size_madeCells]) (enc_one done)
 obtain ⟨W,hW⟩:∃ W,(w.alloc (.cells (madeCells #[.int .i64 0,.string ⟨#[]⟩,.int .i64 0,.int .i64 0,.int .i64 0] (done.length * 5)) 59)).setRow w.heap.size (enc done).toArray=W:=⟨_,rfl⟩
 have HWB:Hid (Below w.heap.size w W):=by rw [← hW]; exact below_setRow (ba _ _) (Nat.le_refl _) _
 have HWR:Hid (W.heap[w.heap.size]? = some (.cells (enc done).toArray 59 (0,0))):=by
  show _=_
  rw [← hW]; exact setRow_heap _ _ _ _ 59 (0,0) (heap_alloc_new w _)
 rw [hW] at hcp
 clear hsrc hrow hW
 go_enter Tryz.func58,Tryz.ntmps58
 go_wp2
 go_ret
 refine ⟨_,rfl,⟨by rw [enc_len],.inr ⟨w.heap.size,done.length,_,rfl,Nat.le_refl _,HWR.out,Nat.le_refl _,by unfold maxLen; omega,by simp [enc_len],?_⟩⟩,HWB.out⟩
 rw [List.toList_toArray,List.take_of_length_le (by rw [enc_len]; exact Nat.le_refl _)]
open Go.Maps Go.Sort
end Go.Proofs.YtpmioeamdhdokaaGreat.K.P
namespace Go.Proofs.YtpmioeamdhdokaaGreat.K.P
open Go.RowKit Go.Shelf Go.Proofs.YtpmioeamdhdokaaGreat.K.Ds
attribute [local go_sem] Oper.semAt_some
end Go.Proofs.YtpmioeamdhdokaaGreat.K.P
namespace Go.Proofs.YtpmioeamdhdokaaGreat.K.P
open Go.RowKit
section
variable {P:Program} {ops:Array Oper} {Q:Exit→Act→World→Prop} {md:Region.Mode} {S:World→Prop} {J:Nat→Bool}
def wpAnyJ (P:Program) (md:Region.Mode) (ops:Array Oper) (Q:Exit→Act→World→Prop) (S:World→Prop) (J:Nat→Bool):Nat→Array Bool→Act→World→Prop
 | 0,listed,a,w=>Region.ready md ops listed=[]∧Q .normal a w
 | fuel + 1,listed,a,w=>(Region.ready md ops listed=[]→Q .normal a w) ∧
  ∀ i∈Region.ready md ops listed,wpOp P ops Q i (fun a' w'=>(J i=true→S w')∧wpAnyJ P md ops Q S J fuel (listed.setIfInBounds i true) a' w') a w
theorem wpAny_of_J:∀ (fuel:Nat) (listed:Array Bool) (a:Act) (w:World),wpAnyJ P md ops Q S J fuel listed a w→wpAny P md ops Q fuel listed a w
 | 0,_,_,_,h=>h
 | fuel + 1,_,_,_,h=>⟨h.1,fun i hi=>wpOp_mono (fun a' w' h'=>wpAny_of_J fuel _ a' w' h'.2) (h.2 i hi)⟩
def Waits (md:Region.Mode) (ops:Array Oper) (J:Nat→Bool) (i:Nat):Prop:=∀ j oj,ops[j]? = some oj→J j=false→∃ e∈oj.after,Region.binds md e=true∧e.on=i
theorem wpAnyJ_first {i:Nat} {oi:Oper} {v:Value} (hi:ops[i]? = some oi) (hJi:J i=true) (hW:Waits md ops J i) (hsel:∀ (j:Nat) (o:Oper) cs b,ops[j]? = some o→o.op≠.select cs b)
  (hQ:∀ c a w,Q (.panic c) (a.put oi.dst v) w→Q (.panic c) a w) :
  ∀ (fuel:Nat) (listed:Array Bool) (a:Act) (w:World),
   (∀ j oj,ops[j]? = some oj→j≠i→listed.getD j true=false→(∀ e∈oj.after,Region.binds md e=true→e.on≠i)→oi.apart ops oj=true) →
   i∈Region.ready md ops listed→YieldsIf P ops S oi v a→S w →
   wpAnyJ P md ops Q S J fuel (listed.setIfInBounds i true) (a.put oi.dst v) w→wpAnyJ P md ops Q S J (fuel + 1) listed a w:=by
 intro fuel
 induction fuel with
 | zero =>
  intro listed a w _ hr hy hS H
  refine ⟨fun h=>(by rw [h] at hr; cases hr),fun j hj=>?_⟩
  by_cases hji:j=i
  ·subst hji; exact hy.wpOp hi hS ⟨fun _=>hS,H⟩
  ·have h0:=ready_mono hj hji
   rw [H.1] at h0
   cases h0
 | succ fuel ih =>
  intro listed a w hfree hr hy hS H
  refine ⟨fun h=>(by rw [h] at hr; cases hr),fun j hj=>?_⟩
  by_cases hji:j=i
  ·subst hji; exact hy.wpOp hi hS ⟨fun _=>hS,H⟩
  ·obtain ⟨hjun,oj,hoj,hall⟩:=mem_ready.1 hj
   have hun:=(mem_ready.1 hr).1
   have hnot:∀ e∈oj.after,Region.binds md e=true→e.on≠i:=fun e he hb heq=>by
    have h1:=hall e he hb
    rw [heq] at h1
    rcases Nat.lt_or_ge i listed.size with h' | h'
    ·simp [h'] at hun h1; rw [hun] at h1; cases h1
    ·simp [Array.getElem?_eq_none h'] at h1
   have hJj:J j=true:=by
    cases hc:J j with
    | true=>rfl
    | false=>obtain ⟨e,he,hb,heq⟩:=hW j oj hoj hc; exact absurd heq (hnot e he hb)
   have h2:=wpOp_putIf hoj (hfree j oj hoj hji hjun hnot) (fun cs b=>hsel i oi cs b hi) (fun cs b=>hsel j oj cs b hoj) hQ hy (H.2 j (ready_mono hj hji))
   have hfree':∀ k ok,ops[k]? = some ok→k≠i→(listed.setIfInBounds j true).getD k true=false →
     (∀ e∈ok.after,Region.binds md e=true→e.on≠i)→oi.apart ops ok=true:=fun k ok hk hki hun' hno=>by
    refine hfree k ok hk hki ?_ hno
    by_cases hjk:j=k
    ·subst hjk; exact hjun
    ·rwa [getD_set_ne true hjk] at hun'
   refine wpOp_mono (fun a' w' h3=>⟨fun _=>h3.2.1 hJj,ih (listed.setIfInBounds j true) a' w' hfree' (ready_mono hr (Ne.symm hji)) h3.1 (h3.2.1 hJj) ?_⟩) h2
   rw [Array.setIfInBounds_comm _ _ hji]
   exact h3.2.2
theorem wpAnyJ_take {i:Nat} {oi:Oper} {v:Value} {fuel:Nat} {listed:Array Bool} {a:Act} {w:World} (hi:ops[i]? = some oi) (hJi:J i=true) (hW:Waits md ops J i)
  (hs:Region.noSelect ops=true) (hf:Region.free md ops listed i=true) (hr:(Region.ready md ops listed).contains i=true)
  (hQ:∀ c a w,Q (.panic c) (a.put oi.dst v) w→Q (.panic c) a w) (hy:YieldsIf P ops S oi v a) (hS:S w)
  (h:wpAnyJ P md ops Q S J fuel (listed.setIfInBounds i true) (a.put oi.dst v) w):wpAnyJ P md ops Q S J (fuel + 1) listed a w :=
 wpAnyJ_first hi hJi hW (Region.noSelect_spec hs) hQ fuel listed a w (Region.free_spec hi hf) (by simpa using hr) hy hS h
theorem wpAnyJ_done {listed:Array Bool} {a:Act} {w:World} (hr:Region.ready md ops listed=[]) (h:Q .normal a w):∀ fuel,wpAnyJ P md ops Q S J fuel listed a w
 | 0=>⟨hr,h⟩
 | _ + 1=>⟨fun _=>h,by rw [hr]; simp⟩
def AllJ (P:Program) (md:Region.Mode) (ops:Array Oper) (Q:Exit→Act→World→Prop) (S:World→Prop) (J:Nat→Bool) (fuel:Nat) (listed:Array Bool) (a:Act) (w:World) (rs:List Nat):Prop :=
 ∀ i∈rs,wpOp P ops Q i (fun a' w'=>(J i=true→S w')∧wpAnyJ P md ops Q S J fuel (listed.setIfInBounds i true) a' w') a w
theorem AllJ.nil {fuel:Nat} {listed:Array Bool} {a:Act} {w:World}:AllJ P md ops Q S J fuel listed a w []:=fun _ h=>by cases h
theorem AllJ.cons {fuel:Nat} {listed:Array Bool} {a:Act} {w:World} {i:Nat} {o:Oper} {rs:List Nat} (ho:ops[i]? = some o)
  (h:∀ K':Act→World→Prop,Shut (∀ a w,(J i=true→S w)→wpAnyJ P md ops Q S J fuel (listed.setIfInBounds i true) a w→K' a w)→if Region.wanted o (yielded ops a.tmps)=true then Oper.wp P o a w K' Q else K' (a.put o.dst undef) w)
  (hs:AllJ P md ops Q S J fuel listed a w rs):AllJ P md ops Q S J fuel listed a w (i :: rs):=fun j hj=>by
 rcases List.mem_cons.1 hj with rfl | hj
 ·exact wpOp_step ho (fun K' hK=>h K' (fun a w hS hW=>hK a w ⟨hS,hW⟩))
 ·exact hs j hj
theorem wpAnyJ_ready {rs:List Nat} {fuel:Nat} {listed:Array Bool} {a:Act} {w:World} (hr:Region.ready md ops listed=rs) (hne:rs≠[]) (h:AllJ P md ops Q S J fuel listed a w rs):wpAnyJ P md ops Q S J (fuel + 1) listed a w :=
 ⟨fun h0=>absurd (hr▸h0) hne,hr▸h⟩
end
end Go.Proofs.YtpmioeamdhdokaaGreat.K.P
namespace Go.Proofs.YtpmioeamdhdokaaGreat.K.P
open Go.RowKit Go.Proofs.YtpmioeamdhdokaaGreat.K.Ds
def Ents (w:World) (B:Nat) (v:Value) (l:List En):Prop :=
 ∃ a c,v=.slice a l.length c∧l.length≤c∧l.length≤9223372036854775807∧(∀ x∈l,x.2.1.size≤9223372036854775807) ∧
  (l≠[]→∃ b o,a=some ⟨b,o,none⟩∧b < B∧∀ i x,l[i]? = some x→w.cell? ⟨b,o + i * 5,none⟩=some (.int .i64 x.1)∧w.cell? ⟨b,o + i * 5 + 1,none⟩=some (.string x.2.1)∧w.cell? ⟨b,o + i * 5 + 2,none⟩=some (.int .i64 x.2.2.1)∧w.cell? ⟨b,o + i * 5 + 3,none⟩=some (.int .i64 x.2.2.2.1)∧w.cell? ⟨b,o + i * 5 + 4,none⟩=some (.int .i64 x.2.2.2.2))
theorem Ents.keep {w w':World} {B:Nat} {v:Value} {l:List En} (h:Ents w B v l) (hb:Below B w w'):Ents w' B v l:=by
 obtain ⟨a,c,hv,hc,hl,hn,hx⟩:=h
 refine ⟨a,c,hv,hc,hl,hn,fun hne=>?_⟩
 obtain ⟨b,o,ha,hB,hcell⟩:=hx hne
 refine ⟨b,o,ha,hB,fun i x hi=>?_⟩
 obtain ⟨h0,h1,h2,h3,h4⟩:=hcell i x hi
 exact ⟨(hb.cell (p:=⟨b,o + i * 5,none⟩) hB).trans h0,(hb.cell (p:=⟨b,o + i * 5 + 1,none⟩) hB).trans h1,(hb.cell (p:=⟨b,o + i * 5 + 2,none⟩) hB).trans h2,(hb.cell (p:=⟨b,o + i * 5 + 3,none⟩) hB).trans h3,(hb.cell (p:=⟨b,o + i * 5 + 4,none⟩) hB).trans h4⟩
theorem Ents.at {w w':World} {B:Nat} {v:Value} {l:List En} (h:Ents w B v l) (hB:B≤w.heap.size) (hb:Below w.heap.size w w'):Ents w' B v l:=h.keep (hb.mono hB)
theorem Ents.slice {w:World} {B:Nat} {v:Value} {l:List En} (h:Ents w B v l):∃ a c,v=.slice a l.length c∧l.length≤c∧l.length≤9223372036854775807:=by
 obtain ⟨a,c,hv,hc,hl,_⟩:=h
 exact ⟨a,c,hv,hc,hl⟩
theorem Ents.get {w wr:World} {B:Nat} {a:Option Addr} {n c:Nat} {l:List En} (h:Ents w B (.slice a n c) l) (hB:B≤w.heap.size) (hb:Below w.heap.size w wr) {i:Nat} (hi:i < l.length) :
  ∃ b o d nm p u v,a=some ⟨b,o,none⟩∧b < B∧l[i]? = some (d,nm,p,u,v)∧wr.cell? ⟨b,o + i * 5,none⟩=some (.int .i64 d)∧wr.cell? ⟨b,o + i * 5 + 1,none⟩=some (.string nm)∧wr.cell? ⟨b,o + i * 5 + 2,none⟩=some (.int .i64 p)∧wr.cell? ⟨b,o + i * 5 + 3,none⟩=some (.int .i64 u)∧wr.cell? ⟨b,o + i * 5 + 4,none⟩=some (.int .i64 v)∧nm.size≤9223372036854775807:=by
 obtain ⟨a',c',hv,_,_,hn,hx⟩:=h.at hB hb
 simp only [Value.slice.injEq] at hv
 obtain ⟨rfl,rfl,rfl⟩:=hv
 obtain ⟨b,o,rfl,hbB,hcell⟩:=hx (ne_of_lt hi)
 obtain ⟨⟨d,nm,p,u,v⟩,hx⟩:=get_lt hi
 obtain ⟨h0,h1,h2,h3,h4⟩:=hcell i _ hx
 exact ⟨b,o,d,nm,p,u,v,rfl,hbB,hx,h0,h1,h2,h3,h4,hn _ (List.mem_of_getElem? hx)⟩
theorem ent_struct:Tryz.prog.underlying 59=some (.struct (Tryz.prog.fieldsOf 59)):=by rw [Program.fieldsOf,Tryz.underlying59]
theorem ent_held:Tryz.prog.stoodInHeld 59=false:=by kernel_rfl
theorem ent_fields : ∃ f0 f1 f2 f3 : Field, (Tryz.prog.fieldsOf 59).toList = [f0, f1, f2, f3] ∧ f0.name ≠ "_" ∧ f1.name ≠ "_" ∧ f2.name ≠ "_" ∧ f3.name ≠ "_" ∧ f0.type = 3 ∧ f1.type = 9 ∧ f2.type = 3 ∧ f3.type = 37 ∧ f0.offset = 0 ∧ f1.offset = 1 ∧ f2.offset = 2 ∧ f3.offset = 3 := by
 refine ⟨_,_,_,_,by rw [Program.fieldsOf,Tryz.underlying59],by decide,by decide,by decide,by decide,rfl,rfl,rfl,rfl,rfl,rfl,rfl,rfl⟩
theorem ent_neq (d d' p p' u u' v v':Int) (nm nm':ByteArray) (r:Bool) (hr:(!decide ((d,nm,p,u,v)=(d',nm',p',u',v')))=r) (W:World) :
  (binOp .neq 59 (.agg #[.int .i64 d,.string nm,.int .i64 p,.int .i64 u,.int .i64 v]) (.agg #[.int .i64 d',.string nm',.int .i64 p',.int .i64 u',.int .i64 v'])).run Tryz.prog W=.ok (.bool r) W:=by
 obtain ⟨f0,f1,f2,f3,hf,n0,n1,n2,n3,t0,t1,t2,t3,o0,o1,o2,o3⟩:=ent_fields
 rw [run_neq_struct,run_equalIn_struct W 9999 59 _ _ ent_struct ent_held,hf,← hr]
 simp [Op.eqFields,n0,n1,n2,n3,t0,t1,t2,t3,o0,o1,o2,o3,go_sem,Tryz.underlying9,Tryz.underlying3,str_eq]
 by_cases h1:d=d' <;> by_cases h2:nm=nm' <;> by_cases h3:p=p' <;> by_cases h4:u=u' <;> by_cases h5:v=v' <;> simp [h1,h2,h3,h4,h5]
theorem take_all {α:Type} [DecidableEq α] {x y:List α} {i:Nat} {a b:α} (hx:x[i]? = some a) (hy:y[i]? = some b) (h:x.take i=y.take i):x.take (i + 1)=y.take (i + 1)↔a=b:=by
 rw [List.take_add_one,List.take_add_one,hx,hy,h]; simp
set_option maxHeartbeats 1000000 in
set_option maxRecDepth 100000 in
theorem sameEntries_any (B:Nat) (v1 v2:Value) (x y:List En) (w:World) (hB:B≤w.heap.size) (hx:Ents w B v1 x) (hy:Ents w B v2 y) (r:Bool) (hr:decide (x=y)=r) :
  Calls Tryz.prog 11 #[v1,v2] w fun e w'=>e=.returned (.bool r)∧Below w.heap.size w w':=by
 have HX:Hid (Ents w B v1 x):=hx
 have HY:Hid (Ents w B v2 y):=hy
 have HR:Hid (decide (x=y)=r):=hr
 obtain ⟨a,c,rfl,hc,hl⟩:=hx.slice
 obtain ⟨a2,c2,rfl,hc2,hl2⟩:=hy.slice
 clear hr
 by_cases hlen:x.length=y.length
 ·have hq:((x.length:Int) != (y.length:Int))=false:=by simp [hlen]
  have HL:Hid (x.length=y.length):=hlen
  clear hlen
  go_enter Tryz.func11,Tryz.ntmps11
  go_wp2
  go_loopw [13] (fun s wr=>∃ (i:Nat),s=.int .i64 (i:Int)∧i≤x.length∧Hid (x.take i=y.take i)∧Below w.heap.size w wr) (fun s _=>x.length - (intOf s).toNat)
  case atStart=>exact ⟨0,rfl,Nat.zero_le _,by simp [Hid],Below.refl _ _⟩
  case round =>
   obtain ⟨i,rfl,hi,HI,hbl⟩:=hrel
   by_cases h1:i < x.length
   ·have h2:i < y.length:=by have:=HL.out; omega
    obtain ⟨b,o,d,nm,p,u,v,rfl,hb,hg,e0,e1,e2,e3,e4,_⟩:=HX.out.get hB hbl h1
    obtain ⟨b',o',d',nm',p',u',v',rfl,hb',hg',g0,g1,g2,g3,g4,_⟩:=HY.out.get hB hbl h2
    have HT:Hid (x.take (i + 1)=y.take (i + 1)↔(d,nm,p,u,v)=(d',nm',p',u',v')):=take_all hg hg' HI.out
    clear hg hg'
    by_cases he:(d,nm,p,u,v)=(d',nm',p',u',v')
    ·have hne:=fun W=>ent_neq d d' p p' u u' v v' nm nm' false (by simpa using he) W
     have HE:Hid ((d,nm,p,u,v)=(d',nm',p',u',v')):=he
     clear he
     go_wp2
     go_quiet (fail)
     go_wp2
     go_roundw
     case rel=>exact ⟨i + 1,by go_num,by omega,HT.out.2 HE.out,below_drewN hbl _⟩
     case measure=>simp [intOf]; omega
    ·have hne:=fun W=>ent_neq d d' p p' u u' v v' nm nm' true (by rw [decide_eq_false he]; rfl) W
     have hf:false=r:=by
      rw [← HR.out]
      refine (decide_eq_false fun e=>he (HT.out.1 (by rw [e]))).symm
     subst hf
     clear he
     go_wp2
     go_quiet (fail)
     go_wp2
     go_ret
     exact ⟨rfl,below_drewN hbl _⟩
   ·have hi':i=x.length:=by omega
    have ht:true=r:=by
     rw [← HR.out]
     have h3:=HI.out
     rw [hi',List.take_length,HL.out,List.take_length] at h3
     exact (decide_eq_true h3).symm
    subst ht
    subst hi'
    go_wp2
    go_ret
    exact ⟨rfl,hbl⟩
 ·have hq:((x.length:Int) != (y.length:Int))=true:=by simp; omega
  have hf:false=r:=by rw [← HR.out]; exact (decide_eq_false fun e=>hlen (by rw [e])).symm
  subst hf
  clear hlen
  go_enter Tryz.func11,Tryz.ntmps11
  go_wp2
  go_ret
  exact ⟨rfl,Below.refl _ _⟩
end Go.Proofs.YtpmioeamdhdokaaGreat.K.P
namespace Go.Proofs.YtpmioeamdhdokaaGreat.K.P
open Go.RowKit Go.Shelf Go.Proofs.YtpmioeamdhdokaaGreat.K.Ds
theorem row_same {w w':World} {base:Nat} {t:TypeId} {sz:Nat} {v:Value} {n:Nat} {xs:List Value} (h:w.ownsRow base t sz v n xs) (hk:∀ g,v.ownBlock=some g→w'.heap[g]? = w.heap[g]?):w'.ownsRow base t sz v n xs:=by
 refine ⟨h.1,?_⟩
 rcases h.2 with h0 | ⟨g,cap,cur,hv,hb,hc,h1,h2,h3,h4⟩
 ·exact .inl h0
 ·exact .inr ⟨g,cap,cur,hv,hb,(hk g (by rw [hv]; rfl)).trans hc,h1,h2,h3,h4⟩
theorem row_lt {w:World} {base:Nat} {t:TypeId} {sz:Nat} {v:Value} {n:Nat} {xs:List Value} (h:w.ownsRow base t sz v n xs) {g:Nat} (hg:v.ownBlock=some g):base≤g∧g < w.heap.size:=by
 rcases h.2 with ⟨rfl,_⟩ | ⟨g',cap,cur,rfl,hb,hc,_⟩
 ·cases hg
 ·simp only [Value.ownBlock,Option.some.injEq] at hg
  subst hg
  exact ⟨hb,(Array.getElem?_eq_some_iff.1 hc).1⟩
theorem row_slice {w:World} {base:Nat} {t:TypeId} {sz:Nat} {v:Value} {n:Nat} {xs:List Value} (h:w.ownsRow base t sz v n xs):∃ a c,v=.slice a n c:=by
 rcases h.2 with ⟨rfl,rfl⟩ | ⟨g',cap,cur,rfl,_⟩
 ·exact ⟨_,_,rfl⟩
 ·exact ⟨_,_,rfl⟩
theorem one_cells (w:World) (a:Value) (t:TypeId) (N:Nat) (hN:N=w.heap.size):∀ j u,[a][j]? = some u→(w.alloc (.cells #[a] t)).cell? ((⟨N,0,none⟩:Addr).add j)=some u:=by
 subst hN
 exact fun j u hu=>World.news_of_block (w:=w.alloc (.cells #[a] t)) (B:=w.heap.size) (cs:=#[a]) (t:=t) (fr:=(0,0)) (heap_alloc_new w _) j u (by simpa using hu)
theorem row_gb {W W':World} {m:Nat} {t:TypeId} {z:Nat} {v:Value} {n:Nat} {xs:List Value} {r:Option Nat} (h:W.ownsRow m t z v n xs) (hg:W.grownBy W' r) (hr:∀ g,v.ownBlock=some g→r≠some g):W'.ownsRow m t z v n xs :=
 row_same h fun g hg2=>hg.block g (row_lt h hg2).2 (fun e=>hr g hg2 e.symm)
def waitsB (md:Region.Mode) (ops:Array Oper) (J:Nat→Bool) (i:Nat):Bool:=(List.range ops.size).all fun j=>J j || match ops[j]? with | some oj=>oj.after.any (fun e=>Region.binds md e && e.on == i) | none=>true
theorem waits_of {md:Region.Mode} {ops:Array Oper} {J:Nat→Bool} {i:Nat} (h:waitsB md ops J i=true):Waits md ops J i:=by
 intro j oj hj hJ
 have hlt:j < ops.size:=(Array.getElem?_eq_some_iff.1 hj).1
 have h1:=List.all_eq_true.1 h j (List.mem_range.2 hlt)
 simp only [hJ,Bool.false_or,hj] at h1
 obtain ⟨k,hk,he⟩:=Array.any_eq_true.1 h1
 simp only [Bool.and_eq_true,beq_iff_eq] at he
 exact ⟨_,Array.getElem_mem hk,he.1,he.2⟩
end Go.Proofs.YtpmioeamdhdokaaGreat.K.P
namespace Go.Proofs.YtpmioeamdhdokaaGreat.K.P
open Go.RowKit Go.Proofs.YtpmioeamdhdokaaGreat.K.Ds
def wby (l:List Int):List Nat:=(l.drop 5).flatMap fun x=>digE 8 (usW x)
theorem flat8_get {α:Type} (f:α→List Nat) (h8:∀ x,(f x).length=8):∀ (ls:List α) (q r:Nat),r < 8→(ls.flatMap f)[8 * q + r]? = (ls[q]?).bind fun x=>(f x)[r]?
 | [],q,r,_=>by simp
 | x :: ls,0,r,hr=>by
  rw [List.flatMap_cons,List.getElem?_append_left (by rw [h8]; omega)]
  simp
 | x :: ls,q + 1,r,hr=>by
  rw [List.flatMap_cons,List.getElem?_append_right (by rw [h8]; omega),h8,show 8 * (q + 1) + r - 8=8 * q + r by omega,flat8_get f h8 ls q r hr]
  simp
theorem wby_get {l:List Int} {i:Nat} {x:Int} (hx:l[5 + i / 8]? = some x):(wby l)[i]? = some ((digE 8 (usW x)).getD (i % 8) 0):=by
 have h:=flat8_get (fun x=>digE 8 (usW x)) (fun x=>digE_len _ _) (l.drop 5) (i / 8) (i % 8) (by omega)
 rw [show 8 * (i / 8) + i % 8=i by omega,List.getElem?_drop,hx] at h
 rw [wby,h]
 simp only [Option.bind_some]
 rw [List.getD,List.getElem?_eq_getElem (by rw [digE_len]; omega)]
 rfl
theorem wby_len {l:List Int} (h:l.length=9):(wby l).length=32:=by
 obtain ⟨x0,x1,x2,x3,x4,x5,x6,x7,x8,rfl⟩:=nine_of h
 simp [wby,digE_len]
theorem wby_lt (l:List Int):∀ b∈wby l,b < 256:=by
 intro b hb
 obtain ⟨x,_,hx⟩:=List.mem_flatMap.1 hb
 exact digE_lt _ _ b hx
theorem nmO_is (l:List Int):nmO (l.drop 5)=(wby l).filter (·≠0):=by
 unfold nmO wby
 rw [List.filter_flatMap]
theorem take_filt {bs:List Nat} {i b:Nat} (h:bs[i]? = some b):(bs.take (i + 1)).filter (·≠0)=(bs.take i).filter (·≠0) ++ if b=0 then [] else [b]:=by
 rw [List.take_add_one,h,List.filter_append]
 congr 1
 by_cases c:b=0 <;> simp [c]
def encB (l:List Nat):List Value:=l.map fun (b:Nat)=>Value.int .u8 (b:Int)
theorem info5:(Tryz.prog.info? 5).map (fun i=>(i.zero,i.size,i.bytes))=some (some (.int .u8 0),1,1):=by kernel_rfl
set_option maxHeartbeats 2000000 in
set_option maxRecDepth 100000 in
theorem rname_any (x0 x1 x2 x3 x4 x5 x6 x7 x8:Int) (w:World) :
  Calls Tryz.prog 182 #[.agg #[.int .i64 x0,.int .i64 x1,.int .i64 x2,.int .i64 x3,.int .i64 x4,.int .i64 x5,.int .i64 x6,.int .i64 x7,.int .i64 x8]] w fun e w'=>e=.returned (.string (baN (nmO [x5,x6,x7,x8])))∧Below w.heap.size w w':=by
 obtain ⟨l,hl⟩:∃ l,[x0,x1,x2,x3,x4,x5,x6,x7,x8]=l:=⟨_,rfl⟩
 have HL:Hid ([x0,x1,x2,x3,x4,x5,x6,x7,x8]=l):=hl
 have HB0:Hid (NinB (w.alloc (.cells #[.int .i64 x0,.int .i64 x1,.int .i64 x2,.int .i64 x3,.int .i64 x4,.int .i64 x5,.int .i64 x6,.int .i64 x7,.int .i64 x8] 206)) w.heap.size l):=by rw [← hl]; exact NinB.new _ _ _ _ _ _ _ _ _ 206 rfl
 have HN:Hid (nmO [x5,x6,x7,x8]=(wby l).filter (·≠0)):=by rw [Hid,← nmO_is,← hl]; rfl
 have H32:Hid ((wby l).length=32∧l.length=9):=by rw [← hl]; exact ⟨wby_len rfl,rfl⟩
 clear hl
 obtain ⟨i0,hi0,hz0,hz1,hz2⟩:=info_parts info5
 go_enter Tryz.func182,Tryz.ntmps182
 go_wp2
 go_loopw [6,3] (fun t o wr=>∃ (i:Nat) (a:Option Addr) (n c:Nat),t=.int .i64 (i:Int)∧o=.slice a n c∧i≤32∧n≤i∧Hid (NinB wr w.heap.size l)∧Hid (Below w.heap.size w wr)∧Hid (wr.ownsRow (w.heap.size + 1) 5 1 (.slice a n c) n (encB (((wby l).take i).filter (·≠0))))∧Hid ((((wby l).take i).filter (·≠0)).length=n)) (fun t _ _=>32 - (intOf t).toNat)
 case atStart =>
  exact ⟨0,none,0,0,rfl,rfl,Nat.zero_le _,Nat.zero_le _,HB0,ba _ _,⟨rfl,.inl ⟨rfl,rfl⟩⟩,rfl⟩
 case round =>
  obtain ⟨i,a,n,c,rfl,rfl,hi,hni,HR,HW,HO,HC⟩:=hrel
  by_cases h1:i < 32
  ·obtain ⟨q,hq⟩:∃ q,i / 8=q:=⟨_,rfl⟩
   obtain ⟨k,hk⟩:∃ k,k=8 * (7 - i % 8):=⟨_,rfl⟩
   have kf:=fun W=>hfirst_any i k h1 hk W
   have hq4:q < 4:=by omega
   have hqi:(i:Int) / 8=(q:Int):=by omega
   obtain ⟨j,hj⟩:∃ j,5 + q=j:=⟨_,rfl⟩
   have hw1:IntKind.i64.wrap (q:Int)=(q:Int):=by rw [IntKind.wrap_i64]; omega
   have hw2:IntKind.i64.wrap (5 + (q:Int))=(j:Int):=by rw [IntKind.wrap_i64]; omega
   have hj9:(j:Int) < 9:=by omega
   obtain ⟨x,hx⟩:∃ x,l[j]? = some x:=⟨_,List.getElem?_eq_getElem (by have:=H32.out.2; omega)⟩
   have m1:=(HR.out.2 j x hx).c
   have hk56:k≤56:=by omega
   obtain ⟨b,hbd⟩:∃ b,(digE 8 (usW x)).getD (i % 8) 0=b:=⟨_,rfl⟩
   have hb:IntKind.u8.wrap (x / 2 ^ k)=(b:Int):=by rw [hk,byte_word x (i % 8) (by omega),hbd]
   have hgb:(wby l)[i]? = some b:=by rw [wby_get (x:=x) (by rw [hq,hj]; exact hx),hbd]
   have hb2:b < 256:=wby_lt l b (List.mem_of_getElem? hgb)
   have HF:Hid _:=take_filt hgb
   have HX:Hid (l[j]? = some x):=hx
   clear hx hq hk hj hbd hgb
   by_cases hb0:b=0
   ·subst hb0
    rw [if_pos rfl,List.append_nil] at HF
    go_wp2_with fail
    go_quiet ((go_at_call 184; refine Calls.quiet_of_same (kf _)))
    go_wp2
    go_roundw
    ·exact ⟨i + 1,a,n,c,by go_num,rfl,h1,by omega,HR.out.at (below_drewN (Below.refl _ _) _),below_drewN HW.out _,by rw [HF.out]; exact row_gb HO.out (gb_none (below_drewN (Below.refl _ _) _)) (by simp),by rw [HF.out]; exact HC⟩
    ·simp [intOf]; omega
   ·rw [if_neg hb0] at HF
    have hbn:((b:Int) == 0)=false:=by simpa using hb0
    have hbm:((b:Int) != 0)=true:=by simpa using hb0
    go_wp2_with fail
    go_quiet ((go_at_call 184; refine Calls.quiet_of_same (kf _)))
    obtain ⟨W,hW⟩:∃ W,wr.drewN nq=W:=⟨_,rfl⟩
    have HWb:Hid (Below wr.heap.size wr W):=hW▸below_drewN (Below.refl _ _) _
    have hWs:wr.heap.size≤W.heap.size:=HWb.out.size
    have hws:w.heap.size≤wr.heap.size:=HW.out.size
    have hws1:w.heap.size < wr.heap.size:=(HR.out.2 j x (by exact HX.out)).lt
    rw [hW]
    clear hW
    have HOW:Hid ((W.alloc (.cells #[.int .u8 (b:Int)] 5)).ownsRow (w.heap.size + 1) 5 1 (.slice a n c) n (encB (((wby l).take i).filter (·≠0)))):=row_gb HO.out (gb_none (bal HWb.out _)) (by simp)
    go_wp2_with (at_builtin; refine wpList_append_own_at _ rfl _ _ 218 rfl (w.heap.size + 1) 5 i0 (.int .u8 0) 1 1 Tryz.underlying218 hi0 hz0 hz1 hz2 rfl (by decide) (.slice a n c) n (encB (((wby l).take i).filter (·≠0))) rfl HOW.out ⟨W.heap.size,0,none⟩ 1 1 [.int .u8 (b:Int)] rfl rfl (one_cells W _ _ _ rfl) (by intro z hz; simp at hz; subst hz; rfl) (by unfold maxLen; omega) (by omega) (by simp; omega) ?_)
    intro nv' w5 hown hgrow hnil hat
    obtain ⟨na,ncc,rfl⟩:=row_slice hown
    have B5:Below w.heap.size w w5:=((bt HW.out HWb.out).alloc (by omega) _).grown hgrow (by simp; omega) (fun k e=>by have:=(row_lt HO.out e).1; omega)
    have HR5:Hid (NinB w5 w.heap.size l):=⟨HR.out.1,fun k y hy=>by
     have h3:=(HR.out.2 k y hy).at (bal HWb.out (.cells #[.int .u8 (b:Int)] 5))
     have e:=hgrow.block w.heap.size h3.lt (fun e=>by have:=(row_lt HO.out e.symm).1; omega)
     exact ⟨(World.cell?_of_block (a:=⟨w.heap.size,k,none⟩) e).trans h3.c,(World.frozen?_of_block (a:=⟨w.heap.size,k,none⟩) e).trans h3.f,Nat.lt_of_lt_of_le h3.lt hgrow.size⟩⟩
    have HO5:Hid (w5.ownsRow (w.heap.size + 1) 5 1 (.slice na (n + 1) ncc) (n + 1) (encB (((wby l).take (i + 1)).filter (·≠0)))):=by rw [Hid,HF.out]; simpa [encB] using hown
    have HB5:Hid (Below w.heap.size w w5):=B5
    have HC5:Hid ((((wby l).take (i + 1)).filter (·≠0)).length=n + 1):=by rw [Hid,HF.out,List.length_append,HC.out]; rfl
    clear hown hgrow B5
    go_wp2
    go_roundw
    ·exact ⟨i + 1,na,n + 1,ncc,by go_num,rfl,h1,by omega,HR5,HB5,HO5,HC5⟩
    ·simp [intOf]; omega
  ·obtain rfl:i=32:=by omega
   have hall:(wby l).take 32=wby l:=List.take_of_length_le (by rw [H32.out.1]; exact Nat.le_refl _)
   rw [hall] at HO HC
   have HE:Hid (baN (nmO [x5,x6,x7,x8])=⟨(((wby l).filter (·≠0)).map UInt8.ofNat).toArray⟩):=by rw [Hid,HN.out]; rfl
   have hcv:(convert 218 9 (.slice a n c)).run Tryz.prog wr=.ok (.string (baN (nmO [x5,x6,x7,x8]))) wr:=by
    rw [HE.out]
    obtain ⟨fs,hfs⟩:∃ fs,(wby l).filter (·≠0)=fs:=⟨_,rfl⟩
    have hlt:∀ b∈fs,b < 256:=fun b hb=>wby_lt l b (by rw [← hfs] at hb; exact (List.mem_filter.1 hb).1)
    have hO:=HO.out
    have hC:=HC.out
    rw [hfs] at hO hC ⊢
    obtain ⟨_,⟨hv,h0⟩ | ⟨g,cap,cur,hv,hb,hcur,hc,_,hsz,hx⟩⟩:=hO
    ·cases hv
     obtain rfl:fs=[]:=List.length_eq_zero_iff.1 hC
     rw [run_convert_bytes_string wr 218 9 5 none 0 0 Tryz.underlying218 Tryz.underlying5 Tryz.underlying9]
     simp [Conv.bytesToString,Sem.run_pure]
     rfl
    ·cases hv
     have hn:n=(fs.map UInt8.ofNat).length:=by rw [List.length_map,hC]
     subst hn
     refine run_convert_bytes_back wr 218 9 5 ⟨g,0,none⟩ _ (fs.map UInt8.ofNat) Tryz.underlying218 Tryz.underlying5 Tryz.underlying9 fun j hj=>?_
     have hj2:j < fs.length:=by simpa using hj
     have h3:(cur.toList.take ((fs.map UInt8.ofNat).length * 1))[j]? = some (.int .u8 (fs[j]:Nat)):=by
      rw [hx,encB,List.getElem?_map,List.getElem?_eq_getElem hj2]; rfl
     rw [List.getElem?_take_of_lt (by simpa using hj2)] at h3
     have e:(UInt8.ofNat fs[j]).toNat=fs[j]:=UInt8.toNat_ofNat_of_lt' (hlt _ (List.getElem_mem hj2))
     rw [List.getElem_map,e]
     rw [Addr.add_lit]
     simp only [World.cell?,Nat.zero_add,hcur]
     simpa using h3
   go_wp2
   go_ret
   exact ⟨rfl,HW.out⟩
theorem part2 (xs:Array Value) (i:Nat) (v:Value) (w:World) (h:xs[i]? = some v):(part 2 xs i).run Tryz.prog w=.ok v w:=by
 unfold part
 simp only [Sem.run_bind,Tryz.isAgg2,Result.andThen_ok,h,Bool.false_eq_true,if_false,Sem.run_pure]
theorem eqL (d:Nat) (X Y:Array Value) (w:World):∀ (n k:Nat) (xs ys:List Int),xs.length=n→ys.length=n→(∀ i x,xs[i]? = some x→X[k + i]? = some (.int .i64 x))→(∀ i y,ys[i]? = some y→Y[k + i]? = some (.int .i64 y)) →
  (forIn (List.range' k n) ((none,()):Option Bool × Unit) fun i _=>do
    let a ← part 2 X i
    let b ← part 2 Y i
    let e ← Op.equalIn (d + 1) 2 a b
    if (!e)=true then pure (ForInStep.done (some false,())) else pure (ForInStep.yield (none,()))).run Tryz.prog w=.ok (if xs=ys then (none,()) else (some false,())) w
 | 0,k,xs,ys,hx,hy,_,_=>by
  obtain rfl:=List.length_eq_zero_iff.1 hx
  obtain rfl:=List.length_eq_zero_iff.1 hy
  simp [Sem.run_pure]
 | n + 1,k,x :: xs,y :: ys,hx,hy,hX,hY=>by
  have ih:=eqL d X Y w n (k + 1) xs ys (by simpa using hx) (by simpa using hy) (fun i z hz=>by rw [show k + 1 + i=k + (i + 1) by omega]; exact hX (i + 1) z (by simpa using hz)) (fun i z hz=>by rw [show k + 1 + i=k + (i + 1) by omega]; exact hY (i + 1) z (by simpa using hz))
  have h1:=hX 0 x rfl
  have h2:=hY 0 y rfl
  rw [Nat.add_zero] at h1 h2
  rw [List.range'_succ,List.forIn_cons]
  simp only [Sem.run_bind,part2 X k _ w h1,part2 Y k _ w h2,Result.andThen_ok,run_equalIn_int w d 2 .i64 .i64 x y Tryz.underlying2]
  by_cases c:x=y
  ·subst c
   simp only [beq_self_eq_true,Bool.not_true,Bool.false_eq_true,if_false,Sem.run_pure,Result.andThen_ok]
   rw [ih]
   simp
  ·have hb:(x == y)=false:=by simpa using c
   simp [hb,c,Sem.run_pure,Result.andThen_ok]
theorem eq9 (w:World) (x0 x1 x2 x3 x4 x5 x6 x7 x8 y0 y1 y2 y3 y4 y5 y6 y7 y8:Int):(binOp .eql 206 (.agg #[.int .i64 x0,.int .i64 x1,.int .i64 x2,.int .i64 x3,.int .i64 x4,.int .i64 x5,.int .i64 x6,.int .i64 x7,.int .i64 x8]) (.agg #[.int .i64 y0,.int .i64 y1,.int .i64 y2,.int .i64 y3,.int .i64 y4,.int .i64 y5,.int .i64 y6,.int .i64 y7,.int .i64 y8])).run Tryz.prog w=.ok (.bool (decide ([x0,x1,x2,x3,x4,x5,x6,x7,x8]=[y0,y1,y2,y3,y4,y5,y6,y7,y8]))) w:=by
 have key:∀ d:Nat,(Op.equalIn (d + 1 + 1) 206 (.agg #[.int .i64 x0,.int .i64 x1,.int .i64 x2,.int .i64 x3,.int .i64 x4,.int .i64 x5,.int .i64 x6,.int .i64 x7,.int .i64 x8]) (.agg #[.int .i64 y0,.int .i64 y1,.int .i64 y2,.int .i64 y3,.int .i64 y4,.int .i64 y5,.int .i64 y6,.int .i64 y7,.int .i64 y8])).run Tryz.prog w=.ok (decide ([x0,x1,x2,x3,x4,x5,x6,x7,x8]=[y0,y1,y2,y3,y4,y5,y6,y7,y8])) w:=by
  intro d
  rw [Op.equalIn]
  simp only [Sem.run_bind,run_underlying Tryz.underlying206,Result.andThen_ok,Std.Legacy.Range.forIn_eq_forIn_range',Std.Legacy.Range.size,Nat.sub_zero,Nat.add_one_sub_one,Nat.div_one]
  rw [Tryz.sizeOf2]
  simp only [Result.andThen_ok,Nat.mul_one]
  rw [eqL d _ _ w 9 0 [x0,x1,x2,x3,x4,x5,x6,x7,x8] [y0,y1,y2,y3,y4,y5,y6,y7,y8] rfl rfl (fun i x hi=>by
   match i,hi with
   | 0,hi | 1,hi | 2,hi | 3,hi | 4,hi | 5,hi | 6,hi | 7,hi | 8,hi=>cases hi; rfl) (fun i x hi=>by
   match i,hi with
   | 0,hi | 1,hi | 2,hi | 3,hi | 4,hi | 5,hi | 6,hi | 7,hi | 8,hi=>cases hi; rfl)]
  by_cases c:[x0,x1,x2,x3,x4,x5,x6,x7,x8]=[y0,y1,y2,y3,y4,y5,y6,y7,y8]
  ·rw [if_pos c,decide_eq_true c]; simp [Sem.run_pure,Result.andThen_ok]
  ·rw [if_neg c,decide_eq_false c]; simp [Sem.run_pure,Result.andThen_ok]
 rw [run_eql_struct]
 have h:=key 9998
 rw [show (10000:Nat)=9998 + 1 + 1 from rfl,h]
 rfl
end Go.Proofs.YtpmioeamdhdokaaGreat.K.P
