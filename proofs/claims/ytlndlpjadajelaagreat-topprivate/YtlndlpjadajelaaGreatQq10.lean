import Derived.Test.YtlndlpjadajelaaGreatQq09
import Derived.Test.YtlndlpjadajelaaGreatQq05
import Derived.Shelf.Bits.Mul64
import Derived.Shelf.SlGeneric
import Derived.Ground.NamesProg
import Derived.Test.YtlndlpjadajelaaGreatProg
import Derived.Sort.BigQuietIn
namespace Go.Proofs.YtlndlpjadajelaaGreat
open Go.RowKit Go.Shelf Go.Proofs.YtlndlpjadajelaaGreat.Ds
def twoE (l m:List Pt):Int:=if (ownT l).2=0 then (ownT m).2 else (ownT l).2
set_option maxHeartbeats 1000000 in
theorem ownTwo_any (B:Nat) (u v:Value) (ts us:List Tr) (w:World) (hB:B≤w.heap.size) (hp:Parts w B u ts) (hq:Parts w B v us) (er:Int) (hr:twoE (rd ts) (rd us)=er) :
  Calls Tryz.prog 37 #[u,v] w fun e w'=>∃ a1 n1 c1 a2 n2 c2,e=.returned (.tuple #[.slice a1 n1 c1,.slice a2 n2 c2,.int .i64 er])∧Below w.heap.size w w' ∧
   (er=0→∃ ts' us',rd ts' = rd ts∧rd us' = rd us∧Parts w' w'.heap.size (.slice a1 n1 c1) ts'∧Parts w' w'.heap.size (.slice a2 n2 c2) us'):=by
 have HP:Hid (Parts w B u ts):=hp
 have HQ:Hid (Parts w B v us):=hq
 obtain ⟨a,c,rfl,_⟩:=hp
 obtain ⟨a',c',rfl,_⟩:=hq
 obtain ⟨⟨l,e1⟩,ho⟩:∃ x,ownT (rd ts)=x:=⟨_,rfl⟩
 obtain ⟨⟨m,e2⟩,ho2⟩:∃ x,ownT (rd us)=x:=⟨_,rfl⟩
 rw [twoE,ho,ho2] at hr
 simp only at hr
 have HR:Hid ((if e1=0 then e2 else e1)=er∧ownT (rd ts)=(l,e1)∧ownT (rd us)=(m,e2)):=⟨hr,ho,ho2⟩
 clear hr ho ho2
 have kc:=own_any B _ ts w hB HP.out l e1 HR.out.2.1
 go_enter Tryz.func37,Tryz.ntmps37
 go_wp2_with fail
 refine kc.mono ?_
 rintro e w1 ⟨v1,x1,rfl,hrd1,ho1,hb1⟩
 obtain ⟨b1,d1,rfl⟩:=ho1.slice
 have HO1:Hid (OwnN w1 w.heap.size (.slice b1 x1.length d1) x1):=ho1
 have HD1:Hid (rd x1=l):=hrd1
 clear ho1 hrd1 kc
 by_cases h1:e1=0
 ·subst h1
  have h3:=HR.out.1
  rw [if_pos rfl] at h3
  subst h3
  have kc:=own_any B _ us w1 (Nat.le_trans hB hb1.size) (HQ.out.at hB hb1) m e2 HR.out.2.2
  go_wp2_with fail
  refine kc.mono ?_
  rintro e w2 ⟨v2,x2,rfl,hrd2,ho2,hb2⟩
  obtain ⟨b2,d2,rfl⟩:=ho2.slice
  have HO2:Hid (OwnN w2 w1.heap.size (.slice b2 x2.length d2) x2):=ho2
  have HD2:Hid (rd x2=m):=hrd2
  have hbb:=bt hb1 hb2
  clear ho2 hrd2 kc
  by_cases h2:e2=0
  ·subst h2
   have HZ:Hid (rd x1=rd ts∧rd x2=rd us∧Parts w2 w2.heap.size (.slice b1 x1.length d1) x1∧Parts w2 w2.heap.size (.slice b2 x2.length d2) x2) :=
    ⟨HD1.out.trans (ownT_ok HR.out.2.1).1,HD2.out.trans (ownT_ok HR.out.2.2).1,(HO1.out.keep hb2).parts,HO2.out.parts⟩
   clear HR
   go_wp2
   exact bodyPost_ret (v:=.tuple #[.slice b1 x1.length d1,.slice b2 x2.length d2,.int .i64 0]) (by simp [results,Tryz.results37,go_sem]) rfl ⟨_,_,_,_,_,_,rfl,hbb,⟨x1,HZ.out.1,x2,HZ.out.2.1,HZ.out.2.2.1,HZ.out.2.2.2⟩⟩
  ·have h2':(e2 == 0)=false:=by simpa using h2
   have h2'':(e2 != 0)=true:=by simpa using h2
   go_wp2
   exact bodyPost_ret (v:=.tuple #[.slice none 0 0,.slice none 0 0,.int .i64 e2]) (by simp [results,Tryz.results37,go_sem]) rfl ⟨_,_,_,_,_,_,rfl,hbb,by first | exact fun h=>absurd h h2 | simp [h2]⟩
 ·have h3:=HR.out.1
  rw [if_neg h1] at h3
  subst h3
  have h1':(e1 == 0)=false:=by simpa using h1
  have h1'':(e1 != 0)=true:=by simpa using h1
  go_wp2
  exact bodyPost_ret (v:=.tuple #[.slice none 0 0,.slice none 0 0,.int .i64 e1]) (by simp [results,Tryz.results37,go_sem]) rfl ⟨_,_,_,_,_,_,rfl,hb1,by first | exact fun h=>absurd h h1 | simp [h1]⟩
theorem twoE_ok {l m:List Pt} (h:twoE l m=0):Dis l∧Dis m:=by
 unfold twoE at h
 split at h
 ·rename_i h1
  exact ⟨(ownT_ok (m:=(ownT l).1) (by rw [← h1])).2,(ownT_ok (m:=(ownT m).1) (by rw [← h])).2⟩
 ·rename_i h1; exact absurd h h1
set_option maxHeartbeats 1000000 in
theorem pairs_in (n:Nat) (aa ab:Option Addr) (na nb ca cb:Nat) (w:World) :
  CallsIn Fence.wide n Tryz.prog 39 #[.slice aa na ca,.slice ab nb cb] w fun e w'=>e=.returned (.func (.func 87) #[] #[.pointer (some ⟨w.heap.size,0,none⟩),.pointer (some ⟨w.heap.size + 1,0,none⟩)])∧w' = (w.alloc (.cells #[.slice aa na ca] 44)).alloc (.cells #[.slice ab nb cb] 44):=by
 refine callsIn_wide.2 ?_
 go_enter Tryz.func39,Tryz.ntmps39
 go_wp2
 go_ret
 exact ⟨rfl,rfl⟩
theorem pairs_stops (n:Nat) (hn:1≤n) (Ba Bb n₀:Nat) (M:Int) (hM0:0≤M) (va vb:Value) (A0 B0:List Tr) (w:World) (hn₀:n₀≤w.heap.size) (hBa:Ba < w.heap.size) (hBb:Bb < w.heap.size)
  (ha:w.cell? ⟨Ba,0,none⟩=some va) (hb:w.cell? ⟨Bb,0,none⟩=some vb) (hpa:Parts w n₀ va A0) (hpb:Parts w n₀ vb B0) (hma:∀ t∈A0,0≤t.2.2∧t.2.2≤M) (hmb:∀ t∈B0,0≤t.2.2∧t.2.2≤M) :
  SeqStopsK Fence.wide n Tryz.prog 87 #[.pointer (some ⟨Ba,0,none⟩),.pointer (some ⟨Bb,0,none⟩)] (encPP (w:=w) (B:=n₀) (M:=M)) (Below n₀) (fun ys=>ys.map (·.1)=mrg A0 B0) (fun pre=>pre.map (·.1) <+: mrg A0 B0) (A0.length + B0.length) w :=
 fun l J Jx W hW hJ _ hY h0=>pairs1_in n hn l Ba Bb n₀ M hM0 va vb A0 B0 w J Jx W hJ (hW.mono hn₀) (Nat.le_trans hn₀ hW.size) hY ((hW.cell (p:=⟨Ba,0,none⟩) hBa).trans ha) ((hW.cell (p:=⟨Bb,0,none⟩) hBb).trans hb) hpa hpb hma hmb h0
attribute [local go_sem] Oper.semAt_some
def mrgP:List Pt→List Pt→List (Pt × Pt)
 | [],[]=>[]
 | [],b :: bs=>(([],0),b) :: mrgP [] bs
 | a :: az,[]=>(a,([],0)) :: mrgP az []
 | a :: az,b :: bs=>if cmpT a.1 b.1 < 0 then (a,([],0)) :: mrgP az (b :: bs) else if 0 < cmpT a.1 b.1 then (([],0),b) :: mrgP (a :: az) bs else (a,b) :: mrgP az bs
termination_by az bs=>az.length + bs.length
def bare (p:Tr × Tr):Pt × Pt:=(p.1.2,p.2.2)
theorem mrg_rd (az bz:List Tr):(mrg az bz).map bare=mrgP (rd az) (rd bz):=by
 induction az,bz using mrg.induct with
 | case1=>simp [mrg,mrgP,rd]
 | case2 b bs ih=>rw [mrg]; simp only [rd,List.map_cons,List.map_nil] at *; rw [mrgP,ih]; rfl
 | case3 a az ih=>rw [mrg]; simp only [rd,List.map_cons,List.map_nil] at *; rw [mrgP,ih]; rfl
 | case4 a az b bs h ih=>rw [mrg_lt h]; simp only [rd,List.map_cons] at *; rw [mrgP,if_pos h,ih]; rfl
 | case5 a az b bs h1 h2 ih=>rw [mrg_gt h2]; simp only [rd,List.map_cons] at *; rw [mrgP,if_neg h1,if_pos h2,ih]; rfl
 | case6 a az b bs h1 h2 ih=>rw [mrg_eq (by omega)]; simp only [rd,List.map_cons] at *; rw [mrgP,if_neg h1,if_neg h2,ih]; rfl
theorem mrgP_mem {az bz:List Pt} {p:Pt × Pt} (h:p∈mrgP az bz):(p.1∈az∨p.1=([],0))∧(p.2∈bz∨p.2=([],0)):=by
 induction az,bz using mrgP.induct with
 | case1=>simp [mrgP] at h
 | case2 b bs ih =>
  rw [mrgP] at h
  rcases List.mem_cons.1 h with rfl | h
  ·exact ⟨.inr rfl,.inl (by simp)⟩
  ·have:=ih h; simp at this ⊢; rcases this with ⟨h1,h2 | h2⟩ <;> simp_all
 | case3 a az ih =>
  rw [mrgP] at h
  rcases List.mem_cons.1 h with rfl | h
  ·exact ⟨.inl (by simp),.inr rfl⟩
  ·have:=ih h; simp at this ⊢; rcases this with ⟨h1 | h1,h2⟩ <;> simp_all
 | case4 a az b bs h1 ih =>
  rw [mrgP,if_pos h1] at h
  rcases List.mem_cons.1 h with rfl | h
  ·exact ⟨.inl (by simp),.inr rfl⟩
  ·obtain ⟨h2,h3⟩:=ih h
   exact ⟨h2.imp (fun h=>by simp [h]) id,h3⟩
 | case5 a az b bs h1 h2 ih =>
  rw [mrgP,if_neg h1,if_pos h2] at h
  rcases List.mem_cons.1 h with rfl | h
  ·exact ⟨.inr rfl,.inl (by simp)⟩
  ·obtain ⟨h2,h3⟩:=ih h
   exact ⟨h2,h3.imp (fun h=>by simp [h]) id⟩
 | case6 a az b bs h1 h2 ih =>
  rw [mrgP,if_neg h1,if_neg h2] at h
  rcases List.mem_cons.1 h with rfl | h
  ·exact ⟨.inl (by simp),.inl (by simp)⟩
  ·obtain ⟨h2,h3⟩:=ih h
   exact ⟨h2.imp (fun h=>by simp [h]) id,h3.imp (fun h=>by simp [h]) id⟩
attribute [local go_sem] Oper.semAt_some
def Two2 {w:World} {B:Nat} {M:Int} (W:World) (Bx:Nat) (x:PP w B M):Prop :=
 W.heap[Bx]? = some (.cells #[x.1.1.1,.int .i64 x.1.1.2.2] 82 (0,0))∧W.heap[Bx + 1]? = some (.cells #[x.1.2.1,.int .i64 x.1.2.2.2] 82 (0,0))
theorem Two2.own {w:World} {B:Nat} {M:Int} {W W':World} {Bx:Nat} {x:PP w B M} {row:Option Nat} (h:Two2 W Bx x) (hg:W.grownBy W' row) (hr:∀ r,row=some r→∃ o:Obj,W.heap[r]? = some o∧o.isCells=false):Two2 W' Bx x:=by
 have key:∀ (k:Nat) (o:Obj),W.heap[k]? = some o→o.isCells=true→W'.heap[k]? = some o:=by
  intro k o hk ho
  rw [hg.block k (Array.getElem?_eq_some_iff.1 hk).1 ?_,hk]
  intro e
  obtain ⟨o',h1,h2⟩:=hr k e.symm
  rw [hk] at h1
  simp only [Option.some.injEq] at h1
  subst h1
  rw [ho] at h2
  cases h2
 exact ⟨key _ _ h.1 rfl,key _ _ h.2 rfl⟩
theorem Two2.cells {w:World} {B:Nat} {M:Int} {W:World} {Bx:Nat} {x:PP w B M} (h:Two2 W Bx x) :
  W.cell? ⟨Bx,0,none⟩=some x.1.1.1∧W.cell? ⟨Bx,1,none⟩=some (.int .i64 x.1.1.2.2)∧W.cell? ⟨Bx + 1,0,none⟩=some x.1.2.1∧W.cell? ⟨Bx + 1,1,none⟩=some (.int .i64 x.1.2.2.2):=by
 obtain ⟨h1,h2⟩:=h
 simp [World.cell?,h1,h2]
theorem two2_new {w:World} {B:Nat} {M:Int} (W:World) (x:PP w B M):Two2 ((W.alloc (.cells #[x.1.1.1,.int .i64 x.1.1.2.2] 82)).alloc (.cells #[x.1.2.1,.int .i64 x.1.2.2.2] 82)) W.heap.size x:=by
 refine ⟨?_,?_⟩
 ·rw [Below.heap_alloc _ _ _ (by simp)]; exact World.alloc_heap_new W _
 ·have:=World.alloc_heap_new (W.alloc (.cells #[x.1.1.1,.int .i64 x.1.1.2.2] 82)) (.cells #[x.1.2.1,.int .i64 x.1.2.2.2] 82)
  rwa [World.size_alloc] at this
end Go.Proofs.YtlndlpjadajelaaGreat
namespace Go.Proofs
open Go.Shelf
def Tryz.mul64_ren:Go.Shelf.Ren:=⟨fun | 264=>89 | n=>n,fun | 53=>133 | 46=>177 | n=>n,fun | n=>n⟩
theorem Tryz.mul64:Go.Proofs.Lays.n264 Tryz.prog Tryz.mul64_ren:={
 mixed:=by kernel_rfl
 f264:=Tryz.func89.trans (congrArg some (by kernel_rfl))
 t46:=Tryz.underlying177
 a46:=Tryz.isAgg177
 z46:=Tryz.sizeOf177
 v46:=Tryz.zeroValue177
 t53:=Tryz.underlying133
 a53:=Tryz.isAgg133
 z53:=Tryz.sizeOf133
 v53:=Tryz.zeroValue133 }
end Go.Proofs
namespace Go.Proofs.YtlndlpjadajelaaGreat
open Go.RowKit Go.Shelf Go.Proofs.YtlndlpjadajelaaGreat.Ds
theorem mul64_any (x y:Nat) (hx:x < 18446744073709551616) (hy:y < 18446744073709551616) (w:World) :
  Calls Tryz.prog 89 #[.int .u64 x,.int .u64 y] w fun e w'=>e=.returned (.tuple #[.int .u64 ((x * y / 18446744073709551616:Nat):Int),.int .u64 ((x * y % 18446744073709551616:Nat):Int)])∧w' = w :=
 Any.bits_Mul64 Tryz.mul64 x y hx hy w
set_option maxHeartbeats 1000000 in
theorem above_any (a b c d:Nat) (ha:a≤1152921504606846976) (hb:b≤1152921504606846976) (hc:c≤1152921504606846976) (hd:d≤1152921504606846976) (r:Bool) (hr:decide (c * b < a * d)=r) (w:World) :
  Calls Tryz.prog 40 #[.int .i64 a,.int .i64 b,.int .i64 c,.int .i64 d] w fun e w'=>e=.returned (.bool r)∧w' = w:=by
 have k1:=mul64_any a d (by omega) (by omega) w
 have k2:=mul64_any c b (by omega) (by omega) w
 have HR:Hid (decide (c * b < a * d)=r):=hr
 clear hr
 obtain ⟨P,hP⟩:∃ P,a * d=P:=⟨_,rfl⟩
 obtain ⟨Q,hQ⟩:∃ Q,c * b=Q:=⟨_,rfl⟩
 rw [hP] at k1
 rw [hQ] at k2
 rw [hP,hQ] at HR
 obtain ⟨ph,hph⟩:∃ x,P / 18446744073709551616=x:=⟨_,rfl⟩
 obtain ⟨pl,hpl⟩:∃ x,P % 18446744073709551616=x:=⟨_,rfl⟩
 obtain ⟨qh,hqh⟩:∃ x,Q / 18446744073709551616=x:=⟨_,rfl⟩
 obtain ⟨ql,hql⟩:∃ x,Q % 18446744073709551616=x:=⟨_,rfl⟩
 rw [hph,hpl] at k1
 rw [hqh,hql] at k2
 have HD:Hid (P=ph * 18446744073709551616 + pl∧Q=qh * 18446744073709551616 + ql∧pl < 18446744073709551616∧ql < 18446744073709551616):=by
  refine ⟨?_,?_,?_,?_⟩ <;> omega
 have w1:IntKind.u64.wrap (a:Int)=a:=by rw [IntKind.wrap_u64]; omega
 have w2:IntKind.u64.wrap (b:Int)=b:=by rw [IntKind.wrap_u64]; omega
 have w3:IntKind.u64.wrap (c:Int)=c:=by rw [IntKind.wrap_u64]; omega
 have w4:IntKind.u64.wrap (d:Int)=d:=by rw [IntKind.wrap_u64]; omega
 clear hP hQ hph hpl hqh hql
 by_cases h1:qh < ph
 ·have hr1:r=true:=by rw [← HR.out]; exact decide_eq_true (by have:=HD.out; omega)
  subst hr1
  go_enter Tryz.func40,Tryz.ntmps40
  go_wp2_with fail
  refine k1.mono ?_
  rintro e w' ⟨rfl,rfl⟩
  go_wp2_with fail
  refine k2.mono ?_
  rintro e w' ⟨rfl,rfl⟩
  go_wp2
  go_ret
  exact ⟨rfl,rfl⟩
 ·by_cases h2:ph=qh
  ·subst h2
   by_cases h3:ql < pl
   ·have hr1:r=true:=by rw [← HR.out]; exact decide_eq_true (by have:=HD.out; omega)
    subst hr1
    go_enter Tryz.func40,Tryz.ntmps40
    go_wp2_with fail
    refine k1.mono ?_
    rintro e w' ⟨rfl,rfl⟩
    go_wp2_with fail
    refine k2.mono ?_
    rintro e w' ⟨rfl,rfl⟩
    go_wp2
    go_ret
    exact ⟨rfl,rfl⟩
   ·have hr1:r=false:=by rw [← HR.out]; exact decide_eq_false (by have:=HD.out; omega)
    subst hr1
    go_enter Tryz.func40,Tryz.ntmps40
    go_wp2_with fail
    refine k1.mono ?_
    rintro e w' ⟨rfl,rfl⟩
    go_wp2_with fail
    refine k2.mono ?_
    rintro e w' ⟨rfl,rfl⟩
    go_wp2
    go_ret
    exact ⟨rfl,rfl⟩
  ·have hr1:r=false:=by rw [← HR.out]; exact decide_eq_false (by have:=HD.out; omega)
   have h2':((ph:Int) == (qh:Int))=false:=by simp; omega
   subst hr1
   go_enter Tryz.func40,Tryz.ntmps40
   go_wp2_with fail
   refine k1.mono ?_
   rintro e w' ⟨rfl,rfl⟩
   go_wp2_with fail
   refine k2.mono ?_
   rintro e w' ⟨rfl,rfl⟩
   go_wp2
   go_ret
   exact ⟨rfl,rfl⟩
end Go.Proofs.YtlndlpjadajelaaGreat
namespace Go.Proofs.YtlndlpjadajelaaGreat
open Go.RowKit Go.Shelf
def noDefer:Op→Bool
 | .defer _=>false
 | _=>true
section
variable {F:Fence} {n:Nat} {P:Program} {ops:Array Oper} {C:World→Prop}
theorem quiet_oper {o:Oper} {a:Act} {K:Act→Prop} {K':Act→World→Prop} {Q':Exit→Act→World→Prop} {w:World} (hd:noDefer o.op=true) (hw:C w)
  (h:∀ a w',C w'→K a→K' a w') (ha:o.askedIn F P a C) (hh:o.quietIn F n P a C K):o.wpIn F n P a w K' Q':=by
 refine ⟨ha w hw,?_⟩
 rw [Oper.semAt_eq _ _ _ (fun c e=>by rw [e] at hd; cases hd)]
 obtain ⟨v,h1,h2⟩:=hh
 have h3:=h1 w hw
 unfold Oper.quietAtIn at h3
 revert h3
 generalize (execOp a.eval o).run P w=r
 intro h3
 rcases r with ⟨x,w'⟩ | ⟨x,w'⟩
 ·cases x <;> simp only [Oper.quietUponIn] at h3 <;> simp only [Oper.uponIn]
  ·rw [h3.1,h3.2]; exact h _ _ hw h2
  ·rw [h3.1,← h3.2]; exact h _ _ hw h2
  ·rw [h3.1]
   exact ⟨h3.2.1,h3.2.2.mono fun e w'' he=>by obtain ⟨rfl,hc⟩:=he; exact h _ _ hc h2⟩
 ·simp only [Oper.quietUponIn] at h3
theorem quiet_any {Q:Act→Prop} {Q':Exit→Act→World→Prop} (hd:ops.toList.all (fun o=>noDefer o.op)=true) (hQ:∀ a w,C w→Q a→Q' .normal a w) :
  ∀ (fuel:Nat) (listed:Array Bool) (a:Act) (w:World),C w→wpAnyQIn F n P .any ops C Q fuel listed a→wpAnyIn F n P .any ops Q' fuel listed a w:=by
 intro fuel
 induction fuel with
 | zero=>intro _ a w hw h; exact ⟨h.1,hQ _ _ hw h.2⟩
 | succ fuel ih =>
  intro listed a w hw h
  refine ⟨fun h0=>hQ _ _ hw (h.1 h0),fun i hi=>?_⟩
  have hh:=h.2 i hi
  unfold qOpIn at hh
  unfold wpOpIn
  cases ho:ops[i]? with
  | none=>simp only [ho] at hh ⊢; exact ih _ _ _ hw hh
  | some o =>
   simp only [ho] at hh ⊢
   have hdo:noDefer o.op=true:=List.all_eq_true.1 hd o (by
    rw [Array.mem_toList_iff]; exact Array.mem_of_getElem? ho)
   by_cases hq:Region.wanted o (yielded ops a.tmps)=true
   ·rw [if_pos hq] at hh ⊢
    exact quiet_oper hdo hw (fun a' w' hw' h'=>ih _ a' w' hw' h') hh.1 hh.2
   ·rw [if_neg hq] at hh ⊢
    exact ⟨hh.1 w hw,ih _ _ _ hw hh.2⟩
theorem quiet_region {id:Nat} {Q:Exit→Act→World→Prop} {a:Act} {w:World} {l:List Oper} (hd:l.all (fun o=>noDefer o.op)=true) (hm:P.follows .mixedOrders=true)
  (hB:Region.lexB .any l.toArray=true)
  (h:wpQuietIn F n P l.toArray (fun w'=>∃ n,w' = w.drewN n) (fun a'=>∀ w',(∃ n,w' = w.drewN n)→Q .normal a' w') l a):(Code.region id l.toArray true).wpIn F n P Q a w:=by
 simp only [Region.lexB,Bool.and_eq_true] at hB
 refine wpIn_region_any hm (quiet_any (C:=fun w'=>∃ n,w' = w.drewN n) (Q:=fun a'=>∀ w',(∃ n,w' = w.drewN n)→Q .normal a' w') (by simpa using hd) (fun _ w' hw' h=>h w' hw') _ _ _ _ ⟨1,rfl⟩ ?_)
 have:=wpAnyQIn_lex (F:=F) (n:=n) (C:=fun w'=>∃ n,w' = w.drewN n) (md:=.any) hB.1 l 0 (Array.replicate l.toArray.size false) a (by simp) (by simpa using hB.2) h
 simpa using this
end
end Go.Proofs.YtlndlpjadajelaaGreat
