import Derived.Test.YtlndlpjadajelaaGreatQq41
import Derived.Test.YtlndlpjadajelaaGreatQq18
import Derived.Deep.Upon
import Derived.Deep.AppendLies
import Derived.Test.YtlndlpjadajelaaGreatQq38
import Derived.Test.YtlndlpjadajelaaGreatQq32
import Derived.Test.YtlndlpjadajelaaGreatQq29
import Derived.Deep.RegionHeld3
namespace Go.Proofs.YtlndlpjadajelaaGreat.K.P
open Go.RowKit Go.Shelf Go.Proofs.YtlndlpjadajelaaGreat.K.Ds
theorem row_cell {w:World} {base:Nat} {t:TypeId} {sz:Nat} {a:Option Addr} {n c:Nat} {xs:List Value} (h:w.ownsRow base t sz (.slice a n c) n xs) {j:Nat} {u:Value} (hj:xs[j]? = some u) :
  ∃ g,a=some ⟨g,0,none⟩∧base≤g∧g < w.heap.size∧w.cell? ⟨g,j,none⟩=some u:=by
 rcases h.2 with ⟨h1,h0⟩ | ⟨g,cap,cur,h1,h2,h3,h4,h5,h6,h7⟩
 ·have:=h.1
  rw [h0] at this
  obtain rfl:xs=[]:=List.eq_nil_of_length_eq_zero (by omega)
  simp at hj
 ·simp only [Value.slice.injEq] at h1
  refine ⟨g,h1.1,h2,(Array.getElem?_eq_some_iff.1 h3).1,?_⟩
  have hlt:j < xs.length:=(List.getElem?_eq_some_iff.1 hj).1
  rw [← h7,List.getElem?_take_of_lt (by rw [← h.1]; exact hlt)] at hj
  simp [World.cell?,h3]
  simpa using hj
theorem enc_get {l:List En} {i:Nat} {x:En} (h:l[i]? = some x):(enc l)[i * 5]? = some (.int .i64 x.1)∧(enc l)[i * 5 + 1]? = some (.string x.2.1)∧(enc l)[i * 5 + 2]? = some (.int .i64 x.2.2.1)∧(enc l)[i * 5 + 3]? = some (.int .i64 x.2.2.2.1)∧(enc l)[i * 5 + 4]? = some (.int .i64 x.2.2.2.2):=by
 induction l generalizing i with
 | nil=>simp at h
 | cons y l ih =>
  cases i with
  | zero=>simp at h; subst h; simp [enc,encE]
  | succ i =>
   simp only [List.getElem?_cons_succ] at h
   have:=ih h
   have e:∀ k,(enc (y :: l))[(i + 1) * 5 + k]? = (enc l)[i * 5 + k]?:=fun k=>by
    have:enc (y :: l)=encE y ++ enc l:=by simp [enc]
    rw [this,List.getElem?_append_right (by simp [encE]; omega)]
    simp only [encE,List.length_cons,List.length_nil]
    congr 1; omega
   exact ⟨by rw [← this.1]; exact e 0,by rw [← this.2.1]; exact e 1,by rw [← this.2.2.1]; exact e 2,by rw [← this.2.2.2.1]; exact e 3,by rw [← this.2.2.2.2]; exact e 4⟩
theorem ents_of_row {w:World} {base:Nat} {v:Value} {dn:List En} (h:w.ownsRow base 87 5 v dn.length (enc dn)) (hl:dn.length≤9223372036854775807) (hn:∀ x∈dn,x.2.1.size≤9223372036854775807):Ents w w.heap.size v dn:=by
 obtain ⟨a,c,rfl⟩:=row_slice h
 refine ⟨a,c,rfl,?_,hl,hn,fun hne=>?_⟩
 ·rcases h.2 with ⟨h1,h0⟩ | ⟨g,cap,cur,h1,h2,h3,h4,_⟩
  ·omega
  ·simp only [Value.slice.injEq] at h1; omega
 ·obtain ⟨x0,l0,rfl⟩:∃ x l,dn=x :: l:=by cases dn; exact absurd rfl hne; exact ⟨_,_,rfl⟩
  obtain ⟨g,rfl,_,hlt,_⟩:=row_cell h (enc_get (i:=0) (x:=x0) rfl).1
  refine ⟨g,0,rfl,hlt,fun i x hi=>?_⟩
  have hg:=enc_get hi
  have cell:∀ {j u},(enc (x0 :: l0))[j]? = some u→w.cell? ⟨g,j,none⟩=some u:=fun hj=>by
   obtain ⟨g',e,_,_,hc⟩:=row_cell h hj
   simp only [Option.some.injEq,Addr.mk.injEq] at e
   rw [e.1]; exact hc
  simp only [Nat.zero_add]
  exact ⟨cell hg.1,cell hg.2.1,cell hg.2.2.1,cell hg.2.2.2.1,cell hg.2.2.2.2⟩
end Go.Proofs.YtlndlpjadajelaaGreat.K.P
namespace Go.Proofs.YtlndlpjadajelaaGreat.K.P
open Go.RowKit Go.Proofs.YtlndlpjadajelaaGreat.K.Ds
abbrev pN:ByteArray:=⟨#[112]⟩
theorem book_one (e:En):bookT [] [e]=([doT [] (nrm e)],stepD [] e):=book_snoc [] [] e
theorem ents_one (w:World) (e:En) (he:e.2.1.size≤9223372036854775807):Ents (w.alloc (.cells #[.int .i64 e.1,.string e.2.1,.int .i64 e.2.2.1,.int .i64 e.2.2.2.1,.int .i64 e.2.2.2.2] 87)) (w.heap.size + 1) (.slice (some ⟨w.heap.size,0,none⟩) 1 1) [e]:=by
 have hV:=FivB.new w (.int .i64 e.1) (.string e.2.1) (.int .i64 e.2.2.1) (.int .i64 e.2.2.2.1) (.int .i64 e.2.2.2.2) 87 _ rfl
 refine ⟨_,1,rfl,by simp,by simp,fun x hx=>?_,fun _=>⟨w.heap.size,0,rfl,by omega,fun i x hi=>?_⟩⟩
 ·simp at hx; subst hx; exact he
 ·have h0:i < 1:=by have:=(List.getElem?_eq_some_iff.1 hi).1; simpa using this
  obtain rfl:i=0:=by omega
  simp at hi; subst hi
  exact ⟨hV.c0,hV.c1,hV.c2,hV.c3,hV.c4⟩
set_option maxHeartbeats 1000000 in
set_option maxRecDepth 100000 in
theorem topened_any (bu bd r:Int) (w:World) (hr:doT [] (nrm (1,pN,0,bu,bd))=r) :
  Calls Tryz.prog 17 #[rv bu bd] w fun x w'=>∃ v,x=.returned (.tuple #[v,.bool (decide (r=0))])∧Ents w' w'.heap.size v [(1,pN,0,bu,bd)]∧Below w.heap.size w w':=by
 have hE:Ents ((w.alloc (.cells #[.int .i64 bu,.int .i64 bd] 23)).alloc (.cells #[.int .i64 1,.string pN,.int .i64 0,.int .i64 bu,.int .i64 bd] 87)) (w.heap.size + 1 + 1) (.slice (some ⟨w.heap.size + 1,0,none⟩) 1 1) [(1,pN,0,bu,bd)]:=by
  have h:=ents_one (w.alloc (.cells #[.int .i64 bu,.int .i64 bd] 23)) (1,pN,0,bu,bd) (show pN.size≤9223372036854775807 by decide)
  have hz:(w.alloc (.cells #[.int .i64 bu,.int .i64 bd] 23)).heap.size=w.heap.size + 1:=by simp
  rw [hz] at h
  exact h
 have hW:Below w.heap.size w ((w.alloc (.cells #[.int .i64 bu,.int .i64 bd] 23)).alloc (.cells #[.int .i64 1,.string pN,.int .i64 0,.int .i64 bu,.int .i64 bd] 87)):=bal (ba _ _) _
 have kb:=pbook_any _ _ _ _ (by simp) hE (by simp) (fun e he=>by simp at he; subst he; exact (show -9223372036854775808≤(0:Int)∧(0:Int)≤9223372036854775807 by decide))
 have HE:Hid (Ents ((w.alloc (.cells #[.int .i64 bu,.int .i64 bd] 23)).alloc (.cells #[.int .i64 1,.string pN,.int .i64 0,.int .i64 bu,.int .i64 bd] 87)) (w.heap.size + 1 + 1) (.slice (some ⟨w.heap.size + 1,0,none⟩) 1 1) [(1,pN,0,bu,bd)]):=hE
 clear hE
 go_enter Tryz.func17,Tryz.ntmps17
 go_wp2_with fail
 refine kb.mono ?_
 rintro e w1 ⟨er,en,nv,sv,bv,rfl,hb1,r0,r1,r2,r3,r4⟩
 rw [book_one] at r0
 rw [hr] at r0
 obtain ⟨a1,c1,rfl⟩:=row_slice r1
 obtain ⟨a2,c2,rfl⟩:=row_slice r2
 obtain ⟨a3,c3,rfl⟩:=row_slice r3
 obtain ⟨a4,c4,rfl⟩:=row_slice r4
 simp only [List.length_cons,List.length_nil,Nat.zero_add] at r0
 obtain ⟨a0,c0,rfl⟩:=row_slice r0
 obtain ⟨g,rfl,_,hg,hc⟩:=row_cell r0 (j:=0) (u:=.int .i64 r) rfl
 have hc2:∀ o,(w1.alloc o).cell? ⟨g,0,none⟩=some (.int .i64 r):=fun o=>((ba w1 o).cell (p:=⟨g,0,none⟩) hg).trans hc
 have G1:=bt hW hb1
 have HE2:∀ o,Ents (w1.alloc o) (w1.alloc o).heap.size (.slice (some ⟨w.heap.size + 1,0,none⟩) 1 1) [(1,pN,0,bu,bd)]:=fun o=>((HE.out.at (by simp) hb1).at (by have:=hb1.size; simp at this; omega) (ba _ o)).mono (by have:=hb1.size; simp at this ⊢; omega)
 have HF:Hid (∀ o,Ents (w1.alloc o) (w1.alloc o).heap.size (.slice (some ⟨w.heap.size + 1,0,none⟩) 1 1) [(1,pN,0,bu,bd)]):=HE2
 clear kb HE HE2 r0 r1 r2 r3 r4 hc
 by_cases h0:r=0
 ·subst h0
  go_wp2
  go_quiet (fail)
  go_wp2
  go_ret2
  exact ⟨_,by first | rfl | simp,(HF.out _).at (Nat.le_refl _) (below_drewN (Below.refl _ _) _),below_drewN (bal G1 _) _⟩
 ·have h1:(r == 0)=false:=by simpa using h0
  have h2:decide (r=0)=false:=by simpa using h0
  go_wp2
  go_quiet (fail)
  go_wp2
  go_ret2
  exact ⟨_,by first | rfl | simp [h2],(HF.out _).at (Nat.le_refl _) (below_drewN (Below.refl _ _) _),below_drewN (bal G1 _) _⟩
theorem app_nothing (w:World) (t ty e:TypeId) (i:TypeInfo) (size:Nat) (ht:Tryz.prog.underlying t=some (.slice e)) (hi:Tryz.prog.info? e=some i) (hz1:i.size=size) (base a:Option Addr) (sLen sCap c:Nat) (hle:sLen≤sCap) :
  (Builtin.append_ #[t,t] ty #[.slice base sLen sCap,.slice a 0 c]).run Tryz.prog w=.ok (.slice base sLen sCap) w:=by
 refine run_append_nothing (P:=Tryz.prog) w t t ty e i ht hi base sLen sCap hle (.slice a 0 c) ?_
 rw [hz1]
 have key:∀ W:World,(Builtin.firstCells size 0 (.slice a 0 c)).run Tryz.prog W=.ok ([]:List Value).toArray W:=by
  intro W
  cases a with
  | none=>exact run_firstCells_none W size 0 0 c
  | some ad=>exact run_firstCells_some W size 0 ad 0 c [] (by simp) (by simp)
 exact ⟨.inl ⟨e,ht⟩,fun w'=>by simp [Builtin.lenOf],key w,key w.drew,by simp,by simp⟩
theorem owns_le {w:World} {base:Nat} {e:TypeId} {size:Nat} {a:Option Addr} {n c:Nat} {xs:List Value} (h:w.ownsRow base e size (.slice a n c) n xs):n≤c:=by
 rcases h.2 with ⟨h1,h2⟩ | ⟨g,cap,cur,h1,_,_,h2,_⟩
 ·simp only [Value.slice.injEq] at h1; omega
 ·simp only [Value.slice.injEq] at h1; omega
theorem step_app {ops:Array Oper} {o:Oper} {a:Act} {K:Act→World→Prop} {Q:Exit→Act→World→Prop} {E:Prop} (w:World) (hgd:o.guard=none) (s x:Operand) (t:TypeId) (ho:o.op=.call { callee:=.builtin .append,args:=#[s,x],argTypes:=#[t,t] })
  (base:Nat) (e:TypeId) (i:TypeInfo) (z:Value) (size bytes:Nat) (ht:Tryz.prog.underlying t=some (.slice e)) (hi:Tryz.prog.info? e=some i) (hz:i.zero=some z) (hsize:i.size=size) (hby:i.bytes=bytes) (hzs:z.cells.size=size) (hsz:0 < size)
  (sa:Option Addr) (n sc:Nat) (xs:List Value) (hs:a.eval s=.slice sa n sc) (hown:w.ownsRow base e size (.slice sa n sc) n xs)
  (ua:Option Addr) (m uc:Nat) (news:List Value) (hx:a.eval x=.slice ua m uc) (hl:news.length=m * size) (hsrc:m≠0→∃ ad,ua=some ad∧∀ j u,news[j]? = some u→w.cell? (ad.add j)=some u) (h1:∀ u∈news,u.oneCell' = true)
  (h63:n + m≤maxLen) (hbytes:(n + m) * bytes≤140737488355328) (hbase:base≤w.heap.size) (n':Nat) (hn':n + m=n')
  (h:∀ a' c' w',w'.ownsRow base e size (.slice a' n' c') n' (xs ++ news)→w.grownBy w' (Value.slice sa n sc).ownBlock→((Value.slice a' n' c').ownBlock=(Value.slice sa n sc).ownBlock∨(Value.slice a' n' c').ownBlock=some w.heap.size)→K (a.put o.dst (.slice a' n' c')) w') :
  if Region.wanted o (yielded ops a.tmps)=true then Oper.wp Tryz.prog o a w K Q else E:=by
 subst hn'
 have hw:Region.wanted o (yielded ops a.tmps)=true:=by simp [Region.wanted,hgd]
 rw [if_pos hw]
 have key:∃ a' c' w',(Builtin.append_ #[t,t] o.type #[.slice sa n sc,.slice ua m uc]).run Tryz.prog w=.ok (.slice a' (n + m) c') w'∧w'.ownsRow base e size (.slice a' (n + m) c') (n + m) (xs ++ news)∧w.grownBy w' (Value.slice sa n sc).ownBlock∧((Value.slice a' (n + m) c').ownBlock=(Value.slice sa n sc).ownBlock∨(Value.slice a' (n + m) c').ownBlock=some w.heap.size):=by
  by_cases hm:m=0
  ·subst hm
   obtain rfl:news=[]:=List.eq_nil_of_length_eq_zero (by omega)
   exact ⟨sa,sc,w,app_nothing w t _ e i size ht hi hsize sa ua n sc uc (owns_le hown),by simpa using hown,World.grownBy.refl _ _,.inl rfl⟩
  ·obtain ⟨ad,rfl,hcell⟩:=hsrc hm
   obtain ⟨v',w',h1,h2,h3,_,h5⟩:=run_append_own_at (P:=Tryz.prog) w base t o.type e i z size bytes ht hi hz hsize hby hzs hsz (.slice sa n sc) n xs hown ad m uc news hl hcell h1 h63 hbytes hbase
   obtain ⟨a',c',rfl⟩:=row_slice h2
   exact ⟨a',c',w',h1,h2,h3,h5⟩
 obtain ⟨a',c',w',hr,h2,h3,h4⟩:=key
 unfold Oper.wp execOp
 simp only [ho,resolve,invoke,builtin,Sem.run_bind,Sem.run_pure,Result.andThen_ok,List.map_toArray,List.map_cons,List.map_nil,hs,hx,hr]
 exact h a' c' w' h2 h3 h4
theorem owns_empty (w:World) (t:TypeId) (sz base:Nat) (hb:base≤w.heap.size):(w.alloc (.cells #[] t)).ownsRow base t sz (.slice (some ⟨w.heap.size,0,none⟩) 0 0) 0 [] :=
 ⟨by simp,.inr ⟨w.heap.size,0,#[],rfl,hb,heap_alloc_new w _,Nat.le_refl _,by decide,by simp,by simp⟩⟩
theorem ents_src {w:World} {B:Nat} {a:Option Addr} {n c:Nat} {l:List En} (h:Ents w B (.slice a n c) l):n≠0→∃ ad,a=some ad∧∀ j u,(enc l)[j]? = some u→w.cell? (ad.add j)=some u:=by
 intro hn
 obtain ⟨a',c',hv,_,_,_,hx⟩:=h
 simp only [Value.slice.injEq] at hv
 obtain ⟨rfl,rfl,rfl⟩:=hv
 obtain ⟨b,o,rfl,_,hcell⟩:=hx (fun e=>by subst e; exact hn rfl)
 refine ⟨_,rfl,fun j u hj=>?_⟩
 rw [Addr.add_lit]
 have hlt:j < (enc l).length:=(List.getElem?_eq_some_iff.1 hj).1
 rw [enc_len] at hlt
 have hi:j / 5 < l.length:=by omega
 obtain ⟨x,hx2⟩:=get_lt hi
 have hg:=enc_get hx2
 obtain ⟨k0,k1,k2,k3,k4⟩:=hcell _ x hx2
 have hj5:j=j / 5 * 5 + j % 5:=by omega
 have hm:j % 5 < 5:=Nat.mod_lt _ (by decide)
 generalize j / 5=q at *
 generalize j % 5=r at *
 subst hj5
 rcases (by omega:r=0∨r=1∨r=2∨r=3∨r=4) with rfl | rfl | rfl | rfl | rfl
 ·have:=hg.1; rw [Nat.add_zero] at hj; rw [this] at hj; cases hj; simpa using k0
 ·rw [hg.2.1] at hj; cases hj; rw [← Nat.add_assoc]; exact k1
 ·rw [hg.2.2.1] at hj; cases hj; rw [← Nat.add_assoc]; exact k2
 ·rw [hg.2.2.2.1] at hj; cases hj; rw [← Nat.add_assoc]; exact k3
 ·rw [hg.2.2.2.2] at hj; cases hj; rw [← Nat.add_assoc]; exact k4
end Go.Proofs.YtlndlpjadajelaaGreat.K.P
namespace Go.Proofs.YtlndlpjadajelaaGreat.K.P
open Go.RowKit Go.Shelf Go.Proofs.YtlndlpjadajelaaGreat.K.Ds
theorem gb_own {A W W':World} {r:Option Nat} (h:A.grownBy W none) (g:W.grownBy W' r) (hr:∀ x,r=some x→A.heap.size≤x):A.grownBy W' none :=
 ⟨g.os.trans h.os,g.tape.trans h.tape,g.output.trans h.output,Nat.le_trans h.size g.size,fun b hb _=>(g.block b (Nat.lt_of_lt_of_le hb h.size) (fun e=>by have:=hr b e.symm; omega)).trans (h.block b hb (by simp))⟩
theorem five_news {W:World} {b:Nat} {x y z s t:Value} (h:FivB W b x y z s t):∀ j u,[x,y,z,s,t][j]? = some u→W.cell? ((⟨b,0,none⟩:Addr).add j)=some u:=by
 intro j u hj
 rw [Addr.add_lit,Nat.zero_add]
 have hj2:j < 5:=by have:=(List.getElem?_eq_some_iff.1 hj).1; simpa using this
 rcases (by omega:j=0∨j=1∨j=2∨j=3∨j=4) with rfl | rfl | rfl | rfl | rfl <;> (simp at hj; subst hj)
 ·exact h.c0
 ·exact h.c1
 ·exact h.c2
 ·exact h.c3
 ·exact h.c4
theorem gb_cell0 {A W:World} {eb:Nat} {x y z s t:Value} (h:FivB A eb x y z s t) (g:A.grownBy W none):FivB W eb x y z s t:=h.gb g (by simp)
set_option maxRecDepth 100000 in
set_option maxHeartbeats 8000000 in
theorem region5 {Q:Exit→Act→World→Prop} (hQp:∀ c a d v w,Q (.panic c) (Act.put a d v) w→Q (.panic c) a w) (t0 t1 t2 t4 t5 t6 t7 t8 t9 t11 t12 t13 t14 t15 t16 t17 t18 t19 t20 t21 t22 t23 t24 t25 t26 t27 t28 t29 t30 t31 t32 t33 t34 t35 t36 t37 t38 t39 t40 t41 t42 t43 t44 t45 t46 t47 t48 t49 t50 t51 t52 t53 t54 t55 t56 t57 t58 t59:Value) (A:World) (B eb c:Nat) (a:Option Addr) (l:List En) (d:Int) (nm:ByteArray) (p u v:Int)
  (hsm:l.length < 4096) (hB:B≤A.heap.size) (hx:Ents A B (.slice a l.length c) l) (hV:FivB A eb (.int .i64 d) (.string nm) (.int .i64 p) (.int .i64 u) (.int .i64 v))
  (hEnd:∀ (u35 u36 u37 u38 u39 u40:Value) (pa:Option Addr) (pc:Nat) (Wf:World),Wf.ownsRow A.heap.size 87 5 (.slice pa (l.length + 1) pc) (l.length + 1) (enc l ++ [.int .i64 d,.string nm,.int .i64 p,.int .i64 u,.int .i64 v])→A.grownBy Wf none→Q .normal { tmps:=#[t0,t1,t2,.slice a l.length c,t4,t5,t6,t7,t8,t9,.pointer (some ⟨eb,0,none⟩),t11,t12,.slice pa (l.length + 1) pc,t14,t15,t16,t17,t18,t19,t20,t21,t22,t23,t24,t25,t26,t27,t28,t29,t30,t31,t32,t33,t34,u35,u36,u37,u38,u39,u40,t41,t42,t43,t44,t45,t46,t47,t48,t49,t50,t51,t52,t53,t54,t55,t56,t57,t58,t59],defers:=[] } Wf) :
  (Code.region 5 #[⟨some 35, .buildSlice 49 0 #[], 49, "top.go:55", #[], none⟩, ⟨some 36, .move (.tmp 3), 49, "top.go:55", #[], none⟩, ⟨some 37, .call { callee := .builtin .append, args := #[.tmp 35, .tmp 36], argTypes := #[49, 49] }, 49, "top.go:55", #[⟨0, .data⟩, ⟨1, .data⟩], none⟩, ⟨some 38, .load 87 (.tmp 10), 87, "top.go:55", #[], none⟩, ⟨some 39, .buildSlice 49 1 #[(0, .tmp 38)], 49, "top.go:55", #[⟨3, .data⟩], none⟩, ⟨some 40, .call { callee := .builtin .append, args := #[.tmp 37, .tmp 39], argTypes := #[49, 49] }, 49, "top.go:55", #[⟨2, .data⟩, ⟨4, .data⟩, ⟨2, .chain⟩], none⟩, ⟨some 13, .assign (.tmp 40), 49, "top.go:55", #[⟨5, .data⟩, ⟨5, .chain⟩, ⟨0, .phase⟩, ⟨1, .phase⟩, ⟨2, .phase⟩, ⟨3, .phase⟩, ⟨4, .phase⟩, ⟨5, .phase⟩], none⟩] true).wp Tryz.prog Q { tmps := #[t0, t1, t2, .slice a l.length c, t4, t5, t6, t7, t8, t9, .pointer (some ⟨eb, 0, none⟩), t11, t12, t13, t14, t15, t16, t17, t18, t19, t20, t21, t22, t23, t24, t25, t26, t27, t28, t29, t30, t31, t32, t33, t34, t35, t36, t37, t38, t39, t40, t41, t42, t43, t44, t45, t46, t47, t48, t49, t50, t51, t52, t53, t54, t55, t56, t57, t58, t59], defers := [] } A := by
 obtain ⟨i45,hi45,hq0,hq1,hq2⟩:=info_parts info33
 have HEND:Hid _:=hEnd
 have HSRC:Hid (∀ W,A.grownBy W none→(l.length≠0→∃ ad,a=some ad∧∀ j x,(enc l)[j]? = some x→W.cell? (ad.add j)=some x)):=by
  intro W hg hk0
  exact ents_src (hx.at hB ⟨hg.os,hg.tape,hg.output,hg.size,fun b hb=>hg.block b hb (by simp)⟩) hk0
 have hl1:=enc_len l
 have HONE:Hid (∀ x∈enc l,x.oneCell' = true):=enc_one l
 have HCN:Hid (∀ W,A.grownBy W none→FivB W eb (.int .i64 d) (.string nm) (.int .i64 p) (.int .i64 u) (.int .i64 v)):=fun W hg=>gb_cell0 hV hg
 have G0:Hid (A.grownBy A.drew none):=gb_drew (gb_refl _ none)
 clear hEnd hx hV
 refine wp_region_any (by kernel_rfl) ?_
 change wpAny _ _ _ _ _ _ _ (World.drew _)
 obtain ⟨V0,hV0⟩:∃ V0,A.drew=V0:=⟨_,rfl⟩
 rw [hV0] at G0 ⊢
 clear hV0
 refine wpAny_of_J (S:=fun W=>A.grownBy W none) (J:=fun _=>true) _ _ _ _ ?_
 refine wpAnyJ_take (i := 1) (oi := ⟨some 36, .move (.tmp 3), 49, "top.go:55", #[], none⟩) (v := .slice a l.length c) rfl rfl (waits_of (by kernel_rfl)) (by kernel_rfl) (by kernel_rfl) (by kernel_rfl) (fun _ _ _ h => hQp _ _ _ _ _ h) (Or.inl ⟨by rfl, fun W hS => ?_⟩) G0.out ?_
 ·go_simp
 simp only [Act.put,List.setIfInBounds_toArray,List.set_cons_zero,List.set_cons_succ]
 refine wpAnyJ_take (i := 3) (oi := ⟨some 38, .load 87 (.tmp 10), 87, "top.go:55", #[], none⟩) (v := .agg #[.int .i64 d, .string nm, .int .i64 p, .int .i64 u, .int .i64 v]) rfl rfl (waits_of (by kernel_rfl)) (by kernel_rfl) (by kernel_rfl) (by kernel_rfl) (fun _ _ _ h => hQp _ _ _ _ _ h) (Or.inl ⟨by rfl, fun W hS => ?_⟩) G0.out ?_
 ·obtain ⟨z0,z1,z2,z3,z4,_,_,_,_,_,_⟩:=HCN.out W hS; go_simp
 simp only [Act.put,List.setIfInBounds_toArray,List.set_cons_zero,List.set_cons_succ]
 refine wpAnyJ_ready (rs:=[0,4]) (by kernel_rfl) (by simp) ?_
 refine AllJ.cons (o := ⟨some 35, .buildSlice 49 0 #[], 49, "top.go:55", #[], none⟩) rfl (fun K hK => ?_) ?_
 ·
  go_simp
  have G2:Hid (A.grownBy (V0.alloc (.cells #[] 87)) none):=gb_own G0.out (gb_none (ba _ _)) (by simp)
  have x4:Hid ((V0.alloc (.cells #[] 87)).ownsRow A.heap.size 87 5 (.slice (some ⟨V0.heap.size,0,none⟩) 0 0) 0 []):=owns_empty _ 87 5 _ G0.out.size
  refine hK.out _ _ (fun _=>G2.out) ?_
  clear hK K
  try simp only [Act.put,List.setIfInBounds_toArray,List.set_cons_zero,List.set_cons_succ]
  obtain ⟨B3,hB3⟩:∃ B3:Nat,B3=V0.heap.size:=⟨_,rfl⟩
  obtain ⟨W1,hW1⟩:∃ W1,W1=(V0.alloc (.cells #[] 87)):=⟨_,rfl⟩
  rw [← hW1,← hB3] at x4 ⊢
  rw [← hW1] at G2
  have lB3:A.heap.size≤B3:=by rw [hB3]; exact G0.out.size
  clear hW1 hB3
  refine wpAnyJ_ready (rs:=[2,4]) (by kernel_rfl) (by simp) ?_
  refine AllJ.cons (o := ⟨some 37, .call { callee := .builtin .append, args := #[.tmp 35, .tmp 36], argTypes := #[49, 49] }, 49, "top.go:55", #[⟨0, .data⟩, ⟨1, .data⟩], none⟩) rfl (fun K hK => ?_) ?_
  ·
   refine step_app _ rfl _ _ 49 rfl A.heap.size 87 i45 (.agg #[.int .i64 0,.string ⟨#[]⟩,.int .i64 0,.int .i64 0,.int .i64 0]) 5 48 Tryz.underlying49 hi45 hq0 hq1 hq2 rfl (by decide) (some ⟨B3,0,none⟩) 0 0 [] rfl x4.out a l.length c (enc l) rfl hl1 (HSRC.out W1 G2.out) HONE.out (by unfold maxLen; omega) (by omega) G2.out.size l.length (by omega) ?_
   intro a8 c9 W5 ho10 hg11 ha12
   have G6:Hid (A.grownBy W5 none):=gb_own G2.out hg11 (fun x hx=>(row_lt x4.out hx).1)
   have R7:Hid (W5.ownsRow A.heap.size 87 5 (.slice a8 l.length c9) l.length (enc l)):=by rw [Hid]; simpa using ho10
   refine hK.out _ _ (fun _=>G6.out) ?_
   clear hK K
   try simp only [Act.put,List.setIfInBounds_toArray,List.set_cons_zero,List.set_cons_succ]
   clear ho10 hg11 ha12
   refine wpAnyJ_ready (rs:=[4]) (by kernel_rfl) (by simp) ?_
   refine AllJ.cons (o := ⟨some 39, .buildSlice 49 1 #[(0, .tmp 38)], 49, "top.go:55", #[⟨3, .data⟩], none⟩) rfl (fun K hK => ?_) ?_
   ·
    go_simp
    have G14:Hid (A.grownBy (W5.alloc (.cells #[.int .i64 d,.string nm,.int .i64 p,.int .i64 u,.int .i64 v] 87)) none):=gb_own G6.out (gb_none (ba _ _)) (by simp)
    have nd16:∀ x,((.slice a8 l.length c9):Value).ownBlock=some x→x≠W5.heap.size:=fun x hx e=>by have:=(row_lt R7.out hx).2; omega
    have R17:Hid ((W5.alloc (.cells #[.int .i64 d,.string nm,.int .i64 p,.int .i64 u,.int .i64 v] 87)).ownsRow A.heap.size 87 5 (.slice a8 l.length c9) l.length (enc l)):=row_gb R7.out (gb_none (ba _ _)) (by simp)
    have x18:Hid (FivB (W5.alloc (.cells #[.int .i64 d,.string nm,.int .i64 p,.int .i64 u,.int .i64 v] 87)) W5.heap.size (.int .i64 d) (.string nm) (.int .i64 p) (.int .i64 u) (.int .i64 v)):=FivB.new _ _ _ _ _ _ 87 _ rfl
    refine hK.out _ _ (fun _=>G14.out) ?_
    clear hK K
    try simp only [Act.put,List.setIfInBounds_toArray,List.set_cons_zero,List.set_cons_succ]
    obtain ⟨B15,hB15⟩:∃ B15:Nat,B15=W5.heap.size:=⟨_,rfl⟩
    obtain ⟨W13,hW13⟩:∃ W13,W13=(W5.alloc (.cells #[.int .i64 d,.string nm,.int .i64 p,.int .i64 u,.int .i64 v] 87)):=⟨_,rfl⟩
    rw [← hW13,← hB15] at x18 ⊢
    rw [← hB15] at nd16
    rw [← hW13] at G14 R17
    have lB15:A.heap.size≤B15:=by rw [hB15]; exact G6.out.size
    clear hW13 hB15
    refine wpAnyJ_ready (rs:=[5]) (by kernel_rfl) (by simp) ?_
    refine AllJ.cons (o := ⟨some 40, .call { callee := .builtin .append, args := #[.tmp 37, .tmp 39], argTypes := #[49, 49] }, 49, "top.go:55", #[⟨2, .data⟩, ⟨4, .data⟩, ⟨2, .chain⟩], none⟩) rfl (fun K hK => ?_) ?_
    ·
     refine step_app _ rfl _ _ 49 rfl A.heap.size 87 i45 (.agg #[.int .i64 0,.string ⟨#[]⟩,.int .i64 0,.int .i64 0,.int .i64 0]) 5 48 Tryz.underlying49 hi45 hq0 hq1 hq2 rfl (by decide) a8 l.length c9 (enc l) rfl R17.out (some ⟨B15,0,none⟩) 1 1 [.int .i64 d,.string nm,.int .i64 p,.int .i64 u,.int .i64 v] rfl rfl (fun _=>⟨_,rfl,five_news x18.out⟩) (by intro z hz; simp at hz; rcases hz with rfl | rfl | rfl | rfl | rfl <;> rfl) (by unfold maxLen; omega) (by omega) G14.out.size (l.length + 1) (by omega) ?_
     intro a22 c23 W19 ho24 hg25 ha26
     have G20:Hid (A.grownBy W19 none):=gb_own G14.out hg25 (fun x hx=>(row_lt R17.out hx).1)
     have nd28:∀ x,(Value.slice a22 (l.length + 1) c23).ownBlock=some x→x≠B15:=fun x hx e=>by
      rcases ha26 with h | h
      ·rw [h] at hx; exact nd16 x hx e
      ·rw [h] at hx; simp only [Option.some.injEq] at hx; have:=x18.out.lt; omega
     have C27:Hid (FivB W19 B15 (.int .i64 d) (.string nm) (.int .i64 p) (.int .i64 u) (.int .i64 v)):=x18.out.gb hg25 (fun e=>nd16 _ e.symm rfl)
     have R21:Hid (W19.ownsRow A.heap.size 87 5 (.slice a22 (l.length + 1) c23) (l.length + 1) (enc l ++ [.int .i64 d,.string nm,.int .i64 p,.int .i64 u,.int .i64 v])):=ho24
     refine hK.out _ _ (fun _=>G20.out) ?_
     clear hK K
     try simp only [Act.put,List.setIfInBounds_toArray,List.set_cons_zero,List.set_cons_succ]
     clear ho24 hg25 ha26
     refine wpAnyJ_ready (rs:=[6]) (by kernel_rfl) (by simp) ?_
     refine AllJ.cons (o := ⟨some 13, .assign (.tmp 40), 49, "top.go:55", #[⟨5, .data⟩, ⟨5, .chain⟩, ⟨0, .phase⟩, ⟨1, .phase⟩, ⟨2, .phase⟩, ⟨3, .phase⟩, ⟨4, .phase⟩, ⟨5, .phase⟩], none⟩) rfl (fun K hK => ?_) ?_
     ·
      go_simp
      refine hK.out _ _ (fun _=>G20.out) ?_
      clear hK K
      try simp only [Act.put,List.setIfInBounds_toArray,List.set_cons_zero,List.set_cons_succ]
      refine wpAnyJ_done (by kernel_rfl) ?_ _
      exact HEND.out _ _ _ _ _ _ _ _ _ R21.out G20.out
     exact AllJ.nil
    exact AllJ.nil
   exact AllJ.nil
  refine AllJ.cons (o := ⟨some 39, .buildSlice 49 1 #[(0, .tmp 38)], 49, "top.go:55", #[⟨3, .data⟩], none⟩) rfl (fun K hK => ?_) ?_
  ·
   go_simp
   have G30:Hid (A.grownBy (W1.alloc (.cells #[.int .i64 d,.string nm,.int .i64 p,.int .i64 u,.int .i64 v] 87)) none):=gb_own G2.out (gb_none (ba _ _)) (by simp)
   have nd32:∀ x,((.slice (some ⟨B3,0,none⟩) 0 0):Value).ownBlock=some x→x≠W1.heap.size:=fun x hx e=>by have:=(row_lt x4.out hx).2; omega
   have R33:Hid ((W1.alloc (.cells #[.int .i64 d,.string nm,.int .i64 p,.int .i64 u,.int .i64 v] 87)).ownsRow A.heap.size 87 5 (.slice (some ⟨B3,0,none⟩) 0 0) 0 []):=row_gb x4.out (gb_none (ba _ _)) (by simp)
   have x34:Hid (FivB (W1.alloc (.cells #[.int .i64 d,.string nm,.int .i64 p,.int .i64 u,.int .i64 v] 87)) W1.heap.size (.int .i64 d) (.string nm) (.int .i64 p) (.int .i64 u) (.int .i64 v)):=FivB.new _ _ _ _ _ _ 87 _ rfl
   refine hK.out _ _ (fun _=>G30.out) ?_
   clear hK K
   try simp only [Act.put,List.setIfInBounds_toArray,List.set_cons_zero,List.set_cons_succ]
   obtain ⟨B31,hB31⟩:∃ B31:Nat,B31=W1.heap.size:=⟨_,rfl⟩
   obtain ⟨W29,hW29⟩:∃ W29,W29=(W1.alloc (.cells #[.int .i64 d,.string nm,.int .i64 p,.int .i64 u,.int .i64 v] 87)):=⟨_,rfl⟩
   rw [← hW29,← hB31] at x34 ⊢
   rw [← hB31] at nd32
   rw [← hW29] at G30 R33
   have lB31:A.heap.size≤B31:=by rw [hB31]; exact G2.out.size
   clear hW29 hB31
   refine wpAnyJ_ready (rs:=[2]) (by kernel_rfl) (by simp) ?_
   refine AllJ.cons (o := ⟨some 37, .call { callee := .builtin .append, args := #[.tmp 35, .tmp 36], argTypes := #[49, 49] }, 49, "top.go:55", #[⟨0, .data⟩, ⟨1, .data⟩], none⟩) rfl (fun K hK => ?_) ?_
   ·
    refine step_app _ rfl _ _ 49 rfl A.heap.size 87 i45 (.agg #[.int .i64 0,.string ⟨#[]⟩,.int .i64 0,.int .i64 0,.int .i64 0]) 5 48 Tryz.underlying49 hi45 hq0 hq1 hq2 rfl (by decide) (some ⟨B3,0,none⟩) 0 0 [] rfl R33.out a l.length c (enc l) rfl hl1 (HSRC.out W29 G30.out) HONE.out (by unfold maxLen; omega) (by omega) G30.out.size l.length (by omega) ?_
    intro a38 c39 W35 ho40 hg41 ha42
    have G36:Hid (A.grownBy W35 none):=gb_own G30.out hg41 (fun x hx=>(row_lt R33.out hx).1)
    have nd44:∀ x,(Value.slice a38 l.length c39).ownBlock=some x→x≠B31:=fun x hx e=>by
     rcases ha42 with h | h
     ·rw [h] at hx; exact nd32 x hx e
     ·rw [h] at hx; simp only [Option.some.injEq] at hx; have:=x34.out.lt; omega
    have C43:Hid (FivB W35 B31 (.int .i64 d) (.string nm) (.int .i64 p) (.int .i64 u) (.int .i64 v)):=x34.out.gb hg41 (fun e=>nd32 _ e.symm rfl)
    have R37:Hid (W35.ownsRow A.heap.size 87 5 (.slice a38 l.length c39) l.length (enc l)):=by rw [Hid]; simpa using ho40
    refine hK.out _ _ (fun _=>G36.out) ?_
    clear hK K
    try simp only [Act.put,List.setIfInBounds_toArray,List.set_cons_zero,List.set_cons_succ]
    clear ho40 hg41 ha42
    refine wpAnyJ_ready (rs:=[5]) (by kernel_rfl) (by simp) ?_
    refine AllJ.cons (o := ⟨some 40, .call { callee := .builtin .append, args := #[.tmp 37, .tmp 39], argTypes := #[49, 49] }, 49, "top.go:55", #[⟨2, .data⟩, ⟨4, .data⟩, ⟨2, .chain⟩], none⟩) rfl (fun K hK => ?_) ?_
    ·
     refine step_app _ rfl _ _ 49 rfl A.heap.size 87 i45 (.agg #[.int .i64 0,.string ⟨#[]⟩,.int .i64 0,.int .i64 0,.int .i64 0]) 5 48 Tryz.underlying49 hi45 hq0 hq1 hq2 rfl (by decide) a38 l.length c39 (enc l) rfl R37.out (some ⟨B31,0,none⟩) 1 1 [.int .i64 d,.string nm,.int .i64 p,.int .i64 u,.int .i64 v] rfl rfl (fun _=>⟨_,rfl,five_news C43.out⟩) (by intro z hz; simp at hz; rcases hz with rfl | rfl | rfl | rfl | rfl <;> rfl) (by unfold maxLen; omega) (by omega) G36.out.size (l.length + 1) (by omega) ?_
     intro a48 c49 W45 ho50 hg51 ha52
     have G46:Hid (A.grownBy W45 none):=gb_own G36.out hg51 (fun x hx=>(row_lt R37.out hx).1)
     have nd54:∀ x,(Value.slice a48 (l.length + 1) c49).ownBlock=some x→x≠B31:=fun x hx e=>by
      rcases ha52 with h | h
      ·rw [h] at hx; exact nd44 x hx e
      ·rw [h] at hx; simp only [Option.some.injEq] at hx; have:=C43.out.lt; omega
     have C53:Hid (FivB W45 B31 (.int .i64 d) (.string nm) (.int .i64 p) (.int .i64 u) (.int .i64 v)):=C43.out.gb hg51 (fun e=>nd44 _ e.symm rfl)
     have R47:Hid (W45.ownsRow A.heap.size 87 5 (.slice a48 (l.length + 1) c49) (l.length + 1) (enc l ++ [.int .i64 d,.string nm,.int .i64 p,.int .i64 u,.int .i64 v])):=ho50
     refine hK.out _ _ (fun _=>G46.out) ?_
     clear hK K
     try simp only [Act.put,List.setIfInBounds_toArray,List.set_cons_zero,List.set_cons_succ]
     clear ho50 hg51 ha52
     refine wpAnyJ_ready (rs:=[6]) (by kernel_rfl) (by simp) ?_
     refine AllJ.cons (o := ⟨some 13, .assign (.tmp 40), 49, "top.go:55", #[⟨5, .data⟩, ⟨5, .chain⟩, ⟨0, .phase⟩, ⟨1, .phase⟩, ⟨2, .phase⟩, ⟨3, .phase⟩, ⟨4, .phase⟩, ⟨5, .phase⟩], none⟩) rfl (fun K hK => ?_) ?_
     ·
      go_simp
      refine hK.out _ _ (fun _=>G46.out) ?_
      clear hK K
      try simp only [Act.put,List.setIfInBounds_toArray,List.set_cons_zero,List.set_cons_succ]
      refine wpAnyJ_done (by kernel_rfl) ?_ _
      exact HEND.out _ _ _ _ _ _ _ _ _ R47.out G46.out
     exact AllJ.nil
    exact AllJ.nil
   exact AllJ.nil
  exact AllJ.nil
 refine AllJ.cons (o := ⟨some 39, .buildSlice 49 1 #[(0, .tmp 38)], 49, "top.go:55", #[⟨3, .data⟩], none⟩) rfl (fun K hK => ?_) ?_
 ·
  go_simp
  have G56:Hid (A.grownBy (V0.alloc (.cells #[.int .i64 d,.string nm,.int .i64 p,.int .i64 u,.int .i64 v] 87)) none):=gb_own G0.out (gb_none (ba _ _)) (by simp)
  have x58:Hid (FivB (V0.alloc (.cells #[.int .i64 d,.string nm,.int .i64 p,.int .i64 u,.int .i64 v] 87)) V0.heap.size (.int .i64 d) (.string nm) (.int .i64 p) (.int .i64 u) (.int .i64 v)):=FivB.new _ _ _ _ _ _ 87 _ rfl
  refine hK.out _ _ (fun _=>G56.out) ?_
  clear hK K
  try simp only [Act.put,List.setIfInBounds_toArray,List.set_cons_zero,List.set_cons_succ]
  obtain ⟨B57,hB57⟩:∃ B57:Nat,B57=V0.heap.size:=⟨_,rfl⟩
  obtain ⟨W55,hW55⟩:∃ W55,W55=(V0.alloc (.cells #[.int .i64 d,.string nm,.int .i64 p,.int .i64 u,.int .i64 v] 87)):=⟨_,rfl⟩
  rw [← hW55,← hB57] at x58 ⊢
  rw [← hW55] at G56
  have lB57:A.heap.size≤B57:=by rw [hB57]; exact G0.out.size
  clear hW55 hB57
  refine wpAnyJ_ready (rs:=[0]) (by kernel_rfl) (by simp) ?_
  refine AllJ.cons (o := ⟨some 35, .buildSlice 49 0 #[], 49, "top.go:55", #[], none⟩) rfl (fun K hK => ?_) ?_
  ·
   go_simp
   have G60:Hid (A.grownBy (W55.alloc (.cells #[] 87)) none):=gb_own G56.out (gb_none (ba _ _)) (by simp)
   have nd62:∀ x,(Value.slice (some ⟨W55.heap.size,0,none⟩) 0 0).ownBlock=some x→x≠B57:=fun x hx e=>by simp only [Value.ownBlock,Option.some.injEq] at hx; have:=x58.out.lt; omega
   have C63:Hid (FivB (W55.alloc (.cells #[] 87)) B57 (.int .i64 d) (.string nm) (.int .i64 p) (.int .i64 u) (.int .i64 v)):=x58.out.below (ba _ _)
   have x64:Hid ((W55.alloc (.cells #[] 87)).ownsRow A.heap.size 87 5 (.slice (some ⟨W55.heap.size,0,none⟩) 0 0) 0 []):=owns_empty _ 87 5 _ G56.out.size
   refine hK.out _ _ (fun _=>G60.out) ?_
   clear hK K
   try simp only [Act.put,List.setIfInBounds_toArray,List.set_cons_zero,List.set_cons_succ]
   obtain ⟨B61,hB61⟩:∃ B61:Nat,B61=W55.heap.size:=⟨_,rfl⟩
   obtain ⟨W59,hW59⟩:∃ W59,W59=(W55.alloc (.cells #[] 87)):=⟨_,rfl⟩
   rw [← hW59,← hB61] at x64 ⊢
   rw [← hB61] at nd62
   rw [← hW59] at G60 C63
   have lB61:A.heap.size≤B61:=by rw [hB61]; exact G56.out.size
   clear hW59 hB61
   refine wpAnyJ_ready (rs:=[2]) (by kernel_rfl) (by simp) ?_
   refine AllJ.cons (o := ⟨some 37, .call { callee := .builtin .append, args := #[.tmp 35, .tmp 36], argTypes := #[49, 49] }, 49, "top.go:55", #[⟨0, .data⟩, ⟨1, .data⟩], none⟩) rfl (fun K hK => ?_) ?_
   ·
    refine step_app _ rfl _ _ 49 rfl A.heap.size 87 i45 (.agg #[.int .i64 0,.string ⟨#[]⟩,.int .i64 0,.int .i64 0,.int .i64 0]) 5 48 Tryz.underlying49 hi45 hq0 hq1 hq2 rfl (by decide) (some ⟨B61,0,none⟩) 0 0 [] rfl x64.out a l.length c (enc l) rfl hl1 (HSRC.out W59 G60.out) HONE.out (by unfold maxLen; omega) (by omega) G60.out.size l.length (by omega) ?_
    intro a68 c69 W65 ho70 hg71 ha72
    have G66:Hid (A.grownBy W65 none):=gb_own G60.out hg71 (fun x hx=>(row_lt x64.out hx).1)
    have nd74:∀ x,(Value.slice a68 l.length c69).ownBlock=some x→x≠B57:=fun x hx e=>by
     rcases ha72 with h | h
     ·rw [h] at hx; exact nd62 x hx e
     ·rw [h] at hx; simp only [Option.some.injEq] at hx; have:=C63.out.lt; omega
    have C73:Hid (FivB W65 B57 (.int .i64 d) (.string nm) (.int .i64 p) (.int .i64 u) (.int .i64 v)):=C63.out.gb hg71 (fun e=>nd62 _ e.symm rfl)
    have R67:Hid (W65.ownsRow A.heap.size 87 5 (.slice a68 l.length c69) l.length (enc l)):=by rw [Hid]; simpa using ho70
    refine hK.out _ _ (fun _=>G66.out) ?_
    clear hK K
    try simp only [Act.put,List.setIfInBounds_toArray,List.set_cons_zero,List.set_cons_succ]
    clear ho70 hg71 ha72
    refine wpAnyJ_ready (rs:=[5]) (by kernel_rfl) (by simp) ?_
    refine AllJ.cons (o := ⟨some 40, .call { callee := .builtin .append, args := #[.tmp 37, .tmp 39], argTypes := #[49, 49] }, 49, "top.go:55", #[⟨2, .data⟩, ⟨4, .data⟩, ⟨2, .chain⟩], none⟩) rfl (fun K hK => ?_) ?_
    ·
     refine step_app _ rfl _ _ 49 rfl A.heap.size 87 i45 (.agg #[.int .i64 0,.string ⟨#[]⟩,.int .i64 0,.int .i64 0,.int .i64 0]) 5 48 Tryz.underlying49 hi45 hq0 hq1 hq2 rfl (by decide) a68 l.length c69 (enc l) rfl R67.out (some ⟨B57,0,none⟩) 1 1 [.int .i64 d,.string nm,.int .i64 p,.int .i64 u,.int .i64 v] rfl rfl (fun _=>⟨_,rfl,five_news C73.out⟩) (by intro z hz; simp at hz; rcases hz with rfl | rfl | rfl | rfl | rfl <;> rfl) (by unfold maxLen; omega) (by omega) G66.out.size (l.length + 1) (by omega) ?_
     intro a78 c79 W75 ho80 hg81 ha82
     have G76:Hid (A.grownBy W75 none):=gb_own G66.out hg81 (fun x hx=>(row_lt R67.out hx).1)
     have nd84:∀ x,(Value.slice a78 (l.length + 1) c79).ownBlock=some x→x≠B57:=fun x hx e=>by
      rcases ha82 with h | h
      ·rw [h] at hx; exact nd74 x hx e
      ·rw [h] at hx; simp only [Option.some.injEq] at hx; have:=C73.out.lt; omega
     have C83:Hid (FivB W75 B57 (.int .i64 d) (.string nm) (.int .i64 p) (.int .i64 u) (.int .i64 v)):=C73.out.gb hg81 (fun e=>nd74 _ e.symm rfl)
     have R77:Hid (W75.ownsRow A.heap.size 87 5 (.slice a78 (l.length + 1) c79) (l.length + 1) (enc l ++ [.int .i64 d,.string nm,.int .i64 p,.int .i64 u,.int .i64 v])):=ho80
     refine hK.out _ _ (fun _=>G76.out) ?_
     clear hK K
     try simp only [Act.put,List.setIfInBounds_toArray,List.set_cons_zero,List.set_cons_succ]
     clear ho80 hg81 ha82
     refine wpAnyJ_ready (rs:=[6]) (by kernel_rfl) (by simp) ?_
     refine AllJ.cons (o := ⟨some 13, .assign (.tmp 40), 49, "top.go:55", #[⟨5, .data⟩, ⟨5, .chain⟩, ⟨0, .phase⟩, ⟨1, .phase⟩, ⟨2, .phase⟩, ⟨3, .phase⟩, ⟨4, .phase⟩, ⟨5, .phase⟩], none⟩) rfl (fun K hK => ?_) ?_
     ·
      go_simp
      refine hK.out _ _ (fun _=>G76.out) ?_
      clear hK K
      try simp only [Act.put,List.setIfInBounds_toArray,List.set_cons_zero,List.set_cons_succ]
      refine wpAnyJ_done (by kernel_rfl) ?_ _
      exact HEND.out _ _ _ _ _ _ _ _ _ R77.out G76.out
     exact AllJ.nil
    exact AllJ.nil
   exact AllJ.nil
  exact AllJ.nil
 exact AllJ.nil
end Go.Proofs.YtlndlpjadajelaaGreat.K.P
namespace Go.Proofs.YtlndlpjadajelaaGreat.K.P
open Go.RowKit Go.Proofs.YtlndlpjadajelaaGreat.K.Ds
theorem prt_bd {l:List Col} {q:Qu} {s:ByteArray} {z er:Int} (h:prtV (prt l q s)=(z,er)):0≤z∧z≤4096:=by
 have key:∀ x:Except Int Int,prtV x=(z,er)→(∀ v,x=.ok v→0≤v∧v≤4096)→0≤z∧z≤4096:=by
  intro x hx hv
  cases x with
  | error e=>simp only [prtV,Prod.mk.injEq] at hx; omega
  | ok v=>simp only [prtV,Prod.mk.injEq] at hx; have:=hv v rfl; omega
 refine key _ h fun v hv=>?_
 unfold prt at hv
 split at hv
 ·cases hv
 ·rename_i b hb
  split at hv
  ·cases hv
  ·rename_i i hi
   split at hv
   ·cases hv
   ·rename_i v' hv'
    split at hv
    ·rename_i hc
     cases hv
     have hsz:=(colE_ok (typ_ok hb).1).2.2.1
     have hlt:=fnd_lt hi
     have:szC l i≤4096:=by
      unfold szC
      rw [List.getElem?_eq_getElem hlt]
      exact (hsz _ (List.getElem_mem hlt)).2
     omega
    ·cases hv
theorem FivB.two {w:World} {R:Nat} {a b c d e:Value} (h:FivB w R a b c d e) (x y:Value):FivB ((w.setCell ⟨R,0,none⟩ x).setCell ⟨R,2,none⟩ y) R x b y d e:=by
 obtain ⟨c0,c1,c2,c3,c4,f0,f1,f2,f3,f4,lt⟩:=h
 refine ⟨?_,?_,?_,?_,?_,?_,?_,?_,?_,?_,?_⟩ <;> simp [go_sem, *]
theorem ents_more {A W:World} {v:Value} {paid:List En} {e:En} (h:W.ownsRow A.heap.size 87 5 v (paid.length + 1) (enc paid ++ [.int .i64 e.1,.string e.2.1,.int .i64 e.2.2.1,.int .i64 e.2.2.2.1,.int .i64 e.2.2.2.2])) (hl:paid.length < 4096) (hn:∀ x∈paid,x.2.1.size≤9223372036854775807) (he:e.2.1.size≤9223372036854775807):Ents W W.heap.size v (paid ++ [e]):=by
 refine ents_of_row (base:=A.heap.size) ?_ (by simp; omega) fun x hx=>?_
 ·rw [enc_snoc,List.length_append]; exact h
 ·rcases List.mem_append.1 hx with h | h
  ·exact hn x h
  ·simp at h; subst h; exact he
theorem Ents.nm {w:World} {B:Nat} {v:Value} {l:List En} (h:Ents w B v l):∀ x∈l,x.2.1.size≤9223372036854775807:=by
 obtain ⟨_,_,_,_,_,hn,_⟩:=h
 exact hn
theorem bk_len (done l:List En):(bookT done l).1.length=l.length:=by
 induction l generalizing done with
 | nil=>rfl
 | cons e es ih=>simp only [bookT,List.length_cons]; rw [ih]
theorem last_err (paid:List En) (e:En):(bookT [] (paid ++ [e])).1[paid.length]? = some (doT (bookT [] paid).2 (nrm e)):=by
 rw [book_snoc]
 simp only
 rw [List.getElem?_append_right (by rw [bk_len]; exact Nat.le_refl _),bk_len]
 simp
theorem pays_end (A:World) (paid:List En) (e:En) (hpl:paid.length < 4096) (hpb:∀ x∈paid,-9223372036854775808≤x.2.2.1∧x.2.2.1≤9223372036854775807) (heb:-9223372036854775808≤e.2.2.1∧e.2.2.1≤9223372036854775807) (hn:∀ x∈paid,x.2.1.size≤9223372036854775807) (he:e.2.1.size≤9223372036854775807) (W:World) (v:Value)
  (h:W.ownsRow A.heap.size 87 5 v (paid.length + 1) (enc paid ++ [.int .i64 e.1,.string e.2.1,.int .i64 e.2.2.1,.int .i64 e.2.2.2.1,.int .i64 e.2.2.2.2])):Ents W W.heap.size v (paid ++ [e])∧Calls Tryz.prog 44 #[v] W (BkdP (paid ++ [e]) W):=by
 have hE:=ents_more h hpl hn he
 refine ⟨hE,pbook_any _ _ _ W (Nat.le_refl _) hE (by simp; omega) fun x hx=>?_⟩
 rcases List.mem_append.1 hx with h | h
 ·exact hpb x h
 ·simp at h; subst h; exact heb
end Go.Proofs.YtlndlpjadajelaaGreat.K.P
