import Derived.Test.YtcaplmodgbpchaaGreatDoorQq32
import Derived.Test.YtcaplmodgbpchaaGreatDoorQq14
import Derived.Test.YtcaplmodgbpchaaGreatDoorQq24
open Go.Proofs.Tryz
open Go.Value(int)
open Go.IntKind(i64)
set_option linter.unusedSimpArgs false
set_option maxHeartbeats 16000000
set_option maxRecDepth 100000
namespace Go.Proofs.YtcaplmodgbpchaaGreatDoor
variable {W W' w w':World} {st t:TypeId} {B B' N base g n nb sz:Nat} {v v0 v1 v2 v3 v4 v5:Value} {bits disk ns o r xs:List Int} {a:Act} {Q:Exit->Act->World->Prop} {ys:List Value} {T d e er p q' u x:Int} {rs:List (List Int)}
namespace K.P
open Go.RowKit K.Ds
section
def oP (st t:TypeId) (sz bt:Nat):Prop:=∃ (i:TypeInfo) (z:Value),prog.underlying st=some (.slice t)/\prog.info? t=some i/\i.zero=some z/\i.size=sz/\i.bytes=bt/\z.cells.size=sz/\0<sz/\bt<=48
theorem bdX:oP 40 72 5 48:=by
 obtain⟨i,h,a,g,j⟩:=pZ bcZ;exact⟨i,_,underlying40,h,a,g,j,rfl,by decide,by decide⟩
theorem i6 {A:World}{xs:List Value}(h:xQ A W)(g:W.ownsRow A.heap.size t sz v n xs)(a:W.grownBy W' v.ownBlock):xQ A W' :=
 ⟨a.os.trans h.os,a.tape.trans h.tape,a.output.trans h.output,bQ h.size a.size,fun b hb=>(a.block b (lQ hb h.size) (fun c=>by have:=(tX g c.symm).1;omega)).trans (h.block b hb)⟩
theorem o6 {o:Oper}{K:Act->World->Prop}{bt:Nat}{r:Value}{xs:List Value}(S:oP st t sz bt)(s x:Operand)(ho:o.op=.call { callee:=.builtin .append,args:=#[s,x],argTypes:=#[st,st] })
  (N:a.eval s=r) (k:W.ownsRow base t sz r n xs) (y:Option Addr) (m A:Nat) (g:List Value) (O:a.eval x=.slice y m A) (M:g.length=m*sz) (l:m≠0->∃ ad,y=some ad/\∀ j u,g[j]? = some u->W.cell? (ad.add j)=some u) (C:∀ u∈g,u.oneCell' = true) (p:n+m<=8192) (L:base<=W.heap.size)
  (h:∀ v w',w'.ownsRow base t sz v (n+m) (xs++g)->W.grownBy w' r.ownBlock->(v.ownBlock=r.ownBlock\/v.ownBlock=some W.heap.size)->K (a.put o.dst v) w'):o.wp prog a W K Q:=by
 obtain⟨i,z,B,D,E,F,G,H,I,J⟩:=S;obtain⟨P,R,rfl⟩:=iY k;exact jO W s x st ho base t i z sz bt B D E F G H I P n R xs N k y m A g O M l C (by unfold maxLen;omega) (bQ (Nat.mul_le_mul p J) (by decide)) L _ rfl (fun _ _ w' q1 q2 q3=>h _ w' q1 q2 q3)
def pT (W:World) (g:Nat) (ys:List Value):Prop:=g<W.heap.size/\∀ j u,ys[j]? = some u->W.cell? ⟨g,j,none⟩=some u
theorem pT.gb {r:Option Nat}(h:pT W g ys)(k:W.grownBy W' r)(i:r≠some g):pT W' g ys :=
 ⟨lQ h.1 k.size,fun j u hj=>(vJ (w:=W) (w':=W') (a:=⟨g,j,none⟩) (k.block g h.1 (fun c=>i c.symm))).trans (h.2 j u hj)⟩
structure AA (A:World) (P:Nat->Prop) (t:TypeId) (sz n:Nat) (xs ys:List Value) (b0 b2 b4 b5 b8:Bool) (r0 r2 r4 r5:Value) (W:World):Prop where
 bel:xQ A W
 pr:∀ g,P g->g<W.heap.size
 f0:b0=true->b2=false->W.ownsRow A.heap.size t sz r0 0 []/\∀ g,P g->r0.ownBlock≠some g
 f2:b2=true->b5=false->W.ownsRow A.heap.size t sz r2 n xs/\∀ g,P g->r2.ownBlock≠some g
 f4:b4=true->b5=false->∃ g,r4=.slice (some ⟨g,0,none⟩) 1 1/\pT W g ys/\(b0=true->b2=false->r0.ownBlock≠some g)/\(b2=true->r2.ownBlock≠some g)
 f5:b5=true->b2=true/\b4=true/\(b8=false->W.ownsRow A.heap.size t sz r5 (n+1) (xs++ys))
variable {A W W':World} {P P':Nat->Prop} {t:TypeId} {sz bt n:Nat} {xs ys:List Value} {b0 b2 b4 b5 b8:Bool} {r0 r2 r4 r5:Value}
theorem AA.zero (u0 u2 u4 u5:Value):AA A (fun _=>False) t sz n xs ys false false false false false u0 u2 u4 u5 A.drew :=
 ⟨(uQ _ _).drew,fun _ h=>h.elim,fun h=>Bool.noConfusion h,fun h=>Bool.noConfusion h,fun h=>Bool.noConfusion h,fun h=>Bool.noConfusion h⟩
theorem AA.more (h:AA A P t sz n xs ys b0 b2 b4 b5 b8 r0 r2 r4 r5 W)(a:xQ W W')(i:∀ g,P' g->P g\/W.heap.size<=g/\g<W'.heap.size):AA A P' t sz n xs ys b0 b2 b4 b5 b8 r0 r2 r4 r5 W':=by
 have j:=a.size
 have q:∀ {v n xs},W.ownsRow A.heap.size t sz v n xs->(∀ g,P g->v.ownBlock≠some g)->W'.ownsRow A.heap.size t sz v n xs/\∀ g,P' g->v.ownBlock≠some g:=fun k m=>⟨sZ k (cZ a) (by simp),fun g hg c=>by
  rcases i g hg with d|d
  ·exact m g d c
  ·have:=(tX k c).2;omega⟩
 refine⟨bt h.bel a,fun g hg=>?_,fun p r=>q (h.f0 p r).1 (h.f0 p r).2,fun p r=>q (h.f2 p r).1 (h.f2 p r).2,fun p r=>?_,fun p=>⟨(h.f5 p).1,(h.f5 p).2.1,fun r=>sZ ((h.f5 p).2.2 r) (cZ a) (by simp)⟩⟩
 ·rcases i g hg with c|c
  ·have:=h.pr g c;omega
  ·exact c.2
 ·obtain⟨g,e,k,m⟩:=h.f4 p r
  exact⟨g,e,k.gb (cZ a) (by simp),m⟩
theorem AA.at (h:AA A P t sz n xs ys b0 b2 b4 b5 b8 r0 r2 r4 r5 W)(a:xQ W W'):AA A P t sz n xs ys b0 b2 b4 b5 b8 r0 r2 r4 r5 W':=h.more a fun _=>.inl
theorem AA.done (h:AA A P t sz n xs ys b0 b2 b4 b5 b8 r0 r2 r4 r5 W):AA A P t sz n xs ys b0 b2 b4 b5 true r0 r2 r4 r5 W:=⟨h.bel,h.pr,h.f0,h.f2,h.f4,fun p=>⟨(h.f5 p).1,(h.f5 p).2.1,fun c=>Bool.noConfusion c⟩⟩
theorem AA.row0 (h:AA A P t sz n xs ys b0 b2 b4 b5 b8 r0 r2 r4 r5 W):AA A P t sz n xs ys true b2 b4 b5 b8 (.slice (some ⟨W.heap.size,0,none⟩) 0 0) r2 r4 r5 (W.alloc (.cells #[] t)):=by
 have k:=h.at (W':=W.alloc (.cells #[] t)) (ba _ _);refine⟨k.bel,k.pr,fun _ _=>⟨lW W t sz _ h.bel.size,fun g hg c=>?_⟩,k.f2,fun p q=>?_,k.f5⟩
 ·have:=h.pr g hg;cases c;exact Nat.lt_irrefl _ this
 ·obtain⟨g,e1,a,_,n⟩:=h.f4 p q
  exact⟨g,e1,a.gb (cZ (ba _ _)) (by simp),fun _ _ c=>by have:=a.1;cases c;exact Nat.lt_irrefl _ this,n⟩
theorem AA.row4 (h:AA A P t sz n xs ys b0 b2 b4 b5 b8 r0 r2 r4 r5 W)(g:b4=false):AA A P t sz n xs ys b0 b2 true b5 b8 r0 r2 (.slice (some ⟨W.heap.size,0,none⟩) 1 1) r5 (W.alloc (.cells ys.toArray t)):=by
 have k:=h.at (W':=W.alloc (.cells ys.toArray t)) (ba _ _);refine⟨k.bel,k.pr,k.f0,k.f2,fun _ q=>⟨W.heap.size,rfl,⟨by simp,fun j u hj=>(Cl.new ys.toArray t j u rfl (by rw[List.getElem?_toArray];exact hj)).c⟩,fun a b c=>?_,fun a c=>?_⟩,fun p=>?_⟩
 ·have:=(tX (h.f0 a b).1 c).2;omega
 ·have:=(tX (h.f2 a q).1 c).2;omega
 ·have:=(h.f5 p).2.1;rw[g] at this;cases this
variable {o:Oper} {a:Act} {K:Act->World->Prop} {Q:Exit->Act->World->Prop} {na:Option Addr} {nc:Nat} {st:TypeId}
theorem AA.app2 (h:AA A P t sz n xs ys b0 b2 b4 b5 b8 r0 r2 r4 r5 W)(L:oP st t sz bt)(s x:Operand)(ho:o.op=.call { callee:=.builtin .append,args:=#[s,x],argTypes:=#[st,st] })
  (I:a.eval s=r0) (J:a.eval x=.slice na n nc) (C:b0=true) (z:b2=false) (M:n<=4096) (B:xs.length=n*sz) (G:∀ u∈xs,u.oneCell' = true) (y:n≠0->∃ ad,na=some ad/\∀ j u,xs[j]? = some u->W.cell? (ad.add j)=some u)
  (H:∀ v w',AA A P t sz n xs ys b0 true b4 b5 b8 r0 v r4 r5 w'->W.grownBy w' r0.ownBlock->(∀ g,P g->r0.ownBlock≠some g)->K (a.put o.dst v) w'):o.wp prog a W K Q:=by
 obtain⟨F,D⟩:=h.f0 C z;refine o6 L s x ho I F na n nc xs J B y G (by omega) h.bel.size (fun v w' hr hg i=>H _ _ ⟨i6 h.bel F hg,fun g k=>lQ (h.pr g k) hg.size,fun _ c=>Bool.noConfusion c,fun _ _=>⟨?_,fun g k c=>?_⟩,fun p q=>?_,fun p=>Bool.noConfusion (z.symm.trans (h.f5 p).1)⟩ hg D)
 ·rwa [vX] at hr
 ·rcases i with i|i
  ·exact D g k (i.symm.trans c)
  ·have:=h.pr g k;have e:=i.symm.trans c;cases e;omega
 ·obtain⟨g,e1,E,m,_⟩:=h.f4 p q
  have l:=m C z;refine⟨g,e1,E.gb hg l,fun _ c=>Bool.noConfusion c,fun _ c=>?_⟩;rcases i with i|i
  ·exact l (i.symm.trans c)
  ·have:=E.1;have e:=i.symm.trans c;cases e;omega
theorem AA.app5 (h:AA A P t sz n xs ys b0 b2 b4 b5 b8 r0 r2 r4 r5 W)(G:oP st t sz bt)(s x:Operand)(ho:o.op=.call { callee:=.builtin .append,args:=#[s,x],argTypes:=#[st,st] })
  (D:a.eval s=r2) (E:a.eval x=r4) (i:b2=true) (l:b4=true) (m:b5=false) (H:n<=4096) (B:ys.length=sz) (y:∀ u∈ys,u.oneCell' = true)
  (z:∀ v w',AA A P t sz n xs ys b0 b2 b4 true b8 r0 r2 r4 v w'->W.grownBy w' r2.ownBlock->(∀ g,P g->r2.ownBlock≠some g)->K (a.put o.dst v) w'):o.wp prog a W K Q:=by
 obtain⟨p,C⟩:=h.f2 i m;obtain⟨g,e1,F,_,_⟩:=h.f4 l m;exact o6 G s x ho D p (some ⟨g,0,none⟩) 1 1 ys (E.trans e1) (by omega) (fun _=>⟨_,rfl,fun j u hj=>by rw[bJ,vX];exact F.2 j u hj⟩) y (by omega) h.bel.size (fun v w' hr hg _=>z _ _ ⟨i6 h.bel p hg,fun g k=>lQ (h.pr g k) hg.size,fun _ c=>Bool.noConfusion (i.symm.trans c),fun _ c=>Bool.noConfusion c,fun _ c=>Bool.noConfusion c,fun _=>⟨i,l,fun _=>hr⟩⟩ hg C)
theorem AA.app2e {l:List En}{e:En}(h:AA A P 72 5 l.length (enc l) (yG e) b0 b2 b4 b5 b8 r0 r2 r4 r5 W)(s x:Operand)(ho:o.op=.call { callee:=.builtin .append,args:=#[s,x],argTypes:=#[40,40] })
  (z:a.eval s=r0) (B:a.eval x=.slice na l.length nc) (k:b0=true) (m:b2=false) (y:l.length<=4096) (i:l.length≠0->∃ ad,na=some ad/\∀ j u,(enc l)[j]? = some u->W.cell? (ad.add j)=some u)
  (p:∀ v w',AA A P 72 5 l.length (enc l) (yG e) b0 true b4 b5 b8 r0 v r4 r5 w'->W.grownBy w' r0.ownBlock->(∀ g,P g->r0.ownBlock≠some g)->K (a.put o.dst v) w'):o.wp prog a W K Q :=
 h.app2 bdX s x ho z B k m y (bM l) (cW l) i p
theorem AA.app5e {l:List En}{e:En}(h:AA A P 72 5 l.length (enc l) (yG e) b0 b2 b4 b5 b8 r0 r2 r4 r5 W)(s x:Operand)(ho:o.op=.call { callee:=.builtin .append,args:=#[s,x],argTypes:=#[40,40] })
  (y:a.eval s=r2) (z:a.eval x=r4) (i:b2=true) (j:b4=true) (k:b5=false) (p:l.length<=4096)
  (m:∀ v w',AA A P 72 5 l.length (enc l) (yG e) b0 b2 b4 true b8 r0 r2 r4 v w'->W.grownBy w' r2.ownBlock->(∀ g,P g->r2.ownBlock≠some g)->K (a.put o.dst v) w'):o.wp prog a W K Q :=
 h.app5 bdX s x ho y z i j k p rfl (fun u hu=>cW [e] u (by simpa [enc] using hu)) m
end
def oU (w:World) (v:Value) (xs:List Int):Prop:=yQ w w.heap.size w.heap.size v xs/\∀ m c,v=.slice none m c->c=0
theorem oU.at (h:oU w v xs)(a:xQ w w'):oU w' v xs :=
 ⟨(h.1.keep a).mono a.size (by rcases Nat.lt_or_ge w.heap.size w'.heap.size with c|c;exact .inr (by omega);exact .inl (by have:=a.size;omega)),h.2⟩
theorem bdZ (h:w.ownsRow base 2 1 v n (wl xs))(j:xs.length=n)(k:n<=9223372036854775807):oU w v xs :=
 ⟨l5 h j k,fun m c e=>by
  obtain⟨a,l,g,_,i,_⟩:=tH h;rw[e] at g;cases g;exact(i rfl).2⟩
theorem dgZ {left:Int}{a:Nat}{r:List (Nat × Int)}(h:left≠0):nX disk left ((a,x)::r)=nX (disk.set a x) (if 0<left then left - 1 else left) r:=by
 rw[nX,zQ h]
theorem dgJ (dv av xv:Value)(disk:List Int)(left:Int)(ps:List (Nat × Int))(w:World)(hd:oU w dv disk)(ha:yQ w w.heap.size w.heap.size av (ps.map fun p=>(p.1:Int)))(hx:yQ w w.heap.size w.heap.size xv (ps.map (·.2)))(hl6:disk.length<=17592186044416)(hle:-9223372036854775808<=left/\left<=9223372036854775807)(hin:∀ p∈ps,p.1<disk.length)(d':List Int)(l':Int)(ok:Bool)(hp:nX disk left ps=(d',l',ok)) :
  Calls prog 34 #[dv,.int .i64 left,av,xv] w fun e w'=>∃ v,e=.returned (.tuple #[v,.int .i64 l',.bool ok])/\w'.ownsRow w.heap.size 2 1 v disk.length (wl d')/\v≠.slice none 0 0/\Below w.heap.size w w':=by
 obtain⟨i2,hi2,hz0,hz1,hz2⟩:=pZ uL;have HD:Hid (oU w dv disk):=hd;have HA:Hid (yQ w w.heap.size w.heap.size av (ps.map fun p=>(p.1:Int))):=ha;have HX:Hid (yQ w w.heap.size w.heap.size xv (ps.map (·.2))):=hx;have HP:Hid (nX disk left ps=(d',l',ok)):=hp;have HIN:Hid (∀ p∈ps,p.1<disk.length):=hin;obtain⟨da,dc,rfl,hdc,hdl⟩:=hd.1.slice;obtain⟨aa,ac,rfl,hac,hal⟩:=ha.slice;obtain⟨xa,xc,rfl,hxc,hxl⟩:=hx.slice;simp only[pA] at hac hal hxc hxl ⊢;have HMD:Hid ((w.alloc (.cells #[] 2)).ownsRow w.heap.size 2 1 (.slice (some ⟨w.heap.size,0,none⟩) 0 0) 0 []):=lW w 2 1 _ (vQ _)
 have HN0:Hid (da=none->disk.length=0/\dc=0):=fun e=>by
  subst e;refine⟨?_,HD.out.2 _ _ rfl⟩;have:=HD.out.2 _ _ rfl;omega
 have HN1:Hid (∀ ad,da=some ad->∀ j u,(wl disk)[j]? = some u->(w.alloc (.cells #[] 2)).cell? (ad.add j)=some u):=fun ad e j u hj=>by
  subst e;have hjl:j<disk.length:=by have:=(fQ.1 hj).1;simpa [wl] using this
  obtain⟨b,o,x,e1,hb,_,hg,hc⟩:=hd.1.get (vQ _) (ba w (.cells #[] 2)) hjl;cases e1;rw[bJ,hc];rw[wl,mV,hg] at hj;exact hj
 clear hd ha hx hp hin;go_enter func34,ntmps34;go_wp2_with (at_builtin;refine uS rfl _ _ 26 rfl w.heap.size 2 i2 (.int .i64 0) 1 8 underlying26 hi2 hz0 hz1 hz2 rfl (by decide) _ _ _ rfl HMD.out da disk.length dc (wl disk) rfl HN0.out ?q1 HN1.out ?q3 ?q4 ?q5 ?q6 ?q7 ?_)
 case q1=>simp[wl]
 case q3=>intro u hu;obtain⟨z,_,rfl⟩:=iJ.1 hu;rfl
 case q4=>simp[maxLen];omega
 case q5=>omega
 intro v' w1 hown hgrow hne;have hb1:Below w.heap.size w w1:=⟨hgrow.os,hgrow.tape,hgrow.output,bQ (by simp) hgrow.size,fun k hk=>(hgrow.block k (by simp;omega) (by simp[Value.ownBlock];omega)).trans (tM _ _ _ hk)⟩;obtain⟨oa,oc,rfl,hoc,hon,hog⟩:=tH hown
 obtain⟨g,rfl⟩:∃ g,oa=some ⟨g,0,none⟩:=by
  cases oa with
  | none=>obtain⟨h1,h2⟩:=hon rfl;rw[h1,h2] at hne;exact absurd rfl hne
  | some ad=>obtain⟨g,e,_⟩:=hog ad rfl;exact⟨g,by rw[e]⟩
 have HG:Hid (w.heap.size<=g):=by obtain⟨g',e,h,_⟩:=hog _ rfl;cases e;exact h
 have HO:Hid (w1.ownsRow w.heap.size 2 1 (.slice (some ⟨g,0,none⟩) disk.length oc) disk.length (wl disk)):=hown;have HB1:Hid (Below w.heap.size w w1):=hb1;clear hown hgrow hon hog hb1 HMD HN0 HN1 hne;go_wp2
 go_loopw [18,1] (fun t lv wr=>∃ (i:Nat) (le:Int) (cur:List Int),t=.int .i64 (i:Int)/\lv=.int .i64 le/\i<=ps.length/\(-9223372036854775808<=le/\le<=9223372036854775807)/\Hid (cur.length=disk.length/\nX cur le (ps.drop i)=(d',l',ok))/\Hid (wr.ownsRow w.heap.size 2 1 (.slice (some ⟨g,0,none⟩) disk.length oc) disk.length (wl cur))/\Hid (Below w.heap.size w wr)) (fun t _ _=>ps.length - (intOf t).toNat)
 case atStart=>exact⟨0,left,disk,rfl,rfl,dQ _,hle,⟨rfl,HP.out⟩,HO,HB1⟩
 case round =>
  obtain⟨i,le,cur,rfl,rfl,hi,hle',HC,HR,HW⟩:=hrel;by_cases h1:i<ps.length
  ·obtain⟨⟨a,x⟩,hax⟩:∃ p,ps[i]? = some p:=⟨_,nZ h1⟩
   have hdr:ps.drop i=(a,x)::ps.drop (i+1):=by
    rw[eV h1];have:=(fQ.1 hax).2;rw[this]
   by_cases h2:le=0
   ·have hq:(le == 0)=true:=by simpa using h2
    have hres:=HC.out.2;rw[hdr,nX,jQ h2] at hres;simp only[cQ] at hres;obtain⟨rfl,rfl,rfl⟩:=hres;clear h2 hdr;go_wp2;exact eQ (v:=.tuple #[.slice (some ⟨g,0,none⟩) disk.length oc,.int .i64 0,.bool false]) (by simp[results,results34,go_sem]) rfl ⟨_,rfl,HR.out,by simp,HW.out⟩
   ·have hq:(le == 0)=false:=by simpa using h2
    have hal2:a<disk.length:=HIN.out _ (qX hax);obtain⟨b1,o1,y1,rfl,hb1,_,hg1,c1⟩:=HA.out.get (vQ _) HW.out (i:=i) (by simpa using h1);obtain⟨b2,o2,y2,rfl,hb2,_,hg2,c2⟩:=HX.out.get (vQ _) HW.out (i:=i) (by simpa using h1);obtain rfl:(a:Int)=y1:=by rw[mV,hax] at hg1;simpa using hg1
    obtain rfl:x=y2:=by rw[mV,hax] at hg2;simpa using hg2
    have hres:=HC.out.2;rw[hdr,dgZ h2] at hres;obtain⟨ce,hce⟩:∃ ce,(wl cur)[a]? = some ce:=⟨_,nZ (by simp[wl];have:=HC.out.1;omega)⟩
    have m0:wr.cell? ⟨g,a,none⟩=some ce:=by
     have:=HR.out.cells (g:=g) rfl a _ hce;rwa [bJ,vX] at this
    have m1:=HR.out.frozenAt a
    have F1:Hid (∀ X,Below wr.heap.size wr X->(X.setCell ⟨g,a,none⟩ (.int .i64 x)).ownsRow w.heap.size 2 1 (.slice (some ⟨g,0,none⟩) disk.length oc) disk.length (wl (cur.set a x))):=fun X hX=>by
     have h:=((sZ HR.out (cZ hX) (by simp)).stored a (.int .i64 x)).1;have e:(wl cur).set a (.int .i64 x)=wl (cur.set a x):=by simp[wl,List.map_set]
     rwa [e] at h
    have F2:Hid (∀ X,Below wr.heap.size wr X->Below w.heap.size w (X.setCell ⟨g,a,none⟩ (.int .i64 x))):=fun X hX=>bs (bt HW.out hX) HG.out _;have hai:(a:Int)<(disk.length:Int):=by omega
    have hil:(i:Int)<(ps.length:Int):=by omega
    clear hdr hg1 hg2 hax hce;by_cases h3:0<le
    ·have hq2:decide (le > 0)=true:=by simpa using h3
     rw[jQ h3] at hres;have FC:Hid ((cur.set a x).length=disk.length/\nX (cur.set a x) (le - 1) (ps.drop (i+1))=(d',l',ok)):=⟨by rw[mK];exact HC.out.1,hres⟩;clear hres;go_wp2
     go_region
     go_wp2
     go_roundw
     case rel=>exact⟨i+1,le - 1,cur.set a x,by go_num,rfl,h1,by omega,FC,(F1.out _ (uQ _ _)).drew,(F2.out _ (uQ _ _)).drew⟩
     case measure=>simp[intOf];omega
    ·have hq2:decide (le > 0)=false:=by simpa using h3
     rw[zQ h3] at hres;have FC:Hid ((cur.set a x).length=disk.length/\nX (cur.set a x) le (ps.drop (i+1))=(d',l',ok)):=⟨by rw[mK];exact HC.out.1,hres⟩;clear hres;go_wp2
     go_region
     go_wp2
     go_roundw
     case rel=>exact⟨i+1,le,cur.set a x,by go_num,rfl,h1,by omega,FC,(F1.out _ (uQ _ _)).drew,(F2.out _ (uQ _ _)).drew⟩
     case measure=>simp[intOf];omega
  ·obtain rfl:i=ps.length:=by omega
   have hres:=HC.out.2;rw[List.drop_length,nX] at hres;simp only[cQ] at hres;obtain⟨rfl,rfl,rfl⟩:=hres;go_wp2;exact eQ (v:=.tuple #[.slice (some ⟨g,0,none⟩) disk.length oc,.int .i64 le,.bool true]) (by simp[results,results34,go_sem]) rfl ⟨_,rfl,HR.out,by simp,HW.out⟩
theorem t6 (a b c d:Int)(i:0<=a)(ha:a<=1073741824)(j:0<=b)(v:b<=1073741824)(k:0<=c)(hc:c<=1073741824)(l:0<=d)(y:d<=1073741824)(r:Bool)(g:decide (a*d<=c*b)=r)(w:World) :
  Calls prog 65 #[rv a b,rv c d] w (iQ w (.bool r)):=by
 have b1:=Rt.nJ i ha l y;have b2:=Rt.nJ k hc j v;obtain⟨P,o⟩:∃ P,a*d=P:=⟨_,rfl⟩;obtain⟨Q,p⟩:∃ Q,c*b=Q:=⟨_,rfl⟩;rw[o] at b1;rw[p] at b2;rw[o,p] at g;by_cases h:P<=Q
 ·have m:decide (P<=Q)=true:=sJ h
  obtain rfl:true=r:=by rw[<-g,m]
  clear g;go_enter func65,ntmps65;go_wp2;go_ret;exact⟨rfl,bal (ba _ _) _⟩
 ·have m:decide (P<=Q)=false:=lZ h
  obtain rfl:false=r:=by rw[<-g,m]
  clear g;go_enter func65,ntmps65;go_wp2;go_ret;exact⟨rfl,bal (ba _ _) _⟩
end K.P
namespace K.P
theorem pQ.bd {r:Rq}(h:pQ r):0<=r.1/\r.1<=1073741824/\1<=r.2/\r.2<=1073741824:=Rt.vF h.1
end K.P
namespace K.P
open Go.RowKit K.Ds
open Go.Maps (Keyed int_keyed string_keyed keyOf_int_mk)
open Go.WideMaps (keyOf_string_mk)
theorem uJ.mono {l:List En}(h:uJ w B v l)(hB:B<=B'):uJ w B' v l:=by
 obtain⟨a,c,k,hc,i,j,m⟩:=h;refine⟨a,c,k,hc,i,j,fun hne=>?_⟩;obtain⟨b,o,ha,p,g⟩:=m hne;exact⟨b,o,ha,by omega,g⟩
end K.P
section
open Go.RowKit Ds
theorem bsZ (zs:List Dz):(rds zs).length=zs.length:=by simp[rds]
def eA (u d lo hi:Int) (l:List K.Ds.aQ) (rs:List (List Int)) (q:K.Ds.Qu):List (List Pt) × Int × Int × Int :=
 if (K.uY (K.lV l rs q)).2≠0 then ([],0,0,(K.uY (K.lV l rs q)).2)
 else if (sV u d lo hi (K.uY (K.lV l rs q)).1).2≠0 then ([],0,0,(sV u d lo hi (K.uY (K.lV l rs q)).1).2)
 else if (dF u d (K.jU (K.typ l q)).1.2.1).2.2≠0 then ([],0,0,(dF u d (K.jU (K.typ l q)).1.2.1).2.2)
 else ((sV u d lo hi (K.uY (K.lV l rs q)).1).1,(dF u d (K.jU (K.typ l q)).1.2.1).1,(dF u d (K.jU (K.typ l q)).1.2.1).2.1,0)
def bsJ (w:World) (ls:List (List Pt)) (p q er:Int) (e:Ending) (w':World):Prop :=
 ∃ v zs,e=.returned (.tuple #[v,rv p q,int i64 er])/\rds zs=ls/\fJ w' w.heap.size v zs/\zs.length<=4096/\xQ w w'
theorem aeQ (h:K.yQ w B nb v xs)(g:xs.length<=1073741824):yQ w B nb v xs:=by
 obtain⟨a,c,i,hc,_,j⟩:=h;exact⟨a,c,i,hc,g,j⟩
theorem btQ {l:List K.Ds.aQ}{q:K.Ds.Qu}(m:K.Qm w B q v0 v1 v2 v3 v4 v5)(h:K.uY (K.lV l rs q)=(xs,e)):xs.length<=4096/\∀ n∈xs,zX n:=by
 unfold K.lV at h;split at h
 ·rename_i h0
  obtain⟨a,g,_⟩:=K.Ds.xM h0;split at h
  ·rename_i b hb
   simp only[K.uY,cQ] at h;obtain⟨rfl,_⟩:=h;have i:=(K.Ds.nI a).2.2.1;obtain⟨o,j⟩:=K.eO i g q 1 _ hb m.ne;have k:=K.Ds.yL i q 1 _ hb;unfold K.Ds.mX at k;refine⟨by omega,fun n hn=>?_⟩;have:=j n hn;unfold zX;omega
  ·simp only[K.uY,cQ] at h
   obtain⟨rfl,_⟩:=h;exact⟨by simp,by simp⟩
 ·simp only[K.uY,cQ] at h
  obtain⟨rfl,_⟩:=h;exact⟨by simp,by simp⟩
theorem btX {lo hi:Int}{l:List (List Pt)}(h:sV u d lo hi ns=(l,er)):l.length<=ns.length:=by
 have e:l=(sV u d lo hi ns).1:=by rw[h]
 rw[e];clear e h
 induction ns with
 | nil=>simp[sV]
 | cons n ns ih =>
  unfold sV;split
  ·simp
  ·split
   ·simp
   ·simp;exact ih
structure Nb (W:World) (N:Nat) (u d:Int) (cv tv v0 v1 v2 v3 v4 v5:Value):Prop where
 r0:K.Cl W N 0 (int i64 u)
 r1:K.Cl W N 1 (int i64 d)
 t0:K.Cl W (N+1) 0 cv
 t1:K.Cl W (N+1) 1 tv
 a0:K.Cl W (N+1+1) 0 v0
 a1:K.Cl W (N+1+1) 1 v1
 a2:K.Cl W (N+1+1) 2 v2
 a3:K.Cl W (N+1+1) 3 v3
 a4:K.Cl W (N+1+1) 4 v4
 a5:K.Cl W (N+1+1) 5 v5
 z0:K.Cl W (N+1+1+1) 0 (int i64 0)
 z1:K.Cl W (N+1+1+1) 1 (int i64 0)
theorem Nb.at {cv tv:Value}(h:Nb W N u d cv tv v0 v1 v2 v3 v4 v5)(a:xQ W W'):Nb W' N u d cv tv v0 v1 v2 v3 v4 v5 :=
 ⟨h.r0.at a,h.r1.at a,h.t0.at a,h.t1.at a,h.a0.at a,h.a1.at a,h.a2.at a,h.a3.at a,h.a4.at a,h.a5.at a,h.z0.at a,h.z1.at a⟩
theorem Nb.new (w:World)(u d:Int)(cv a v0 v1 v2 v3 v4 v5:Value):Nb ((((w.alloc (.cells #[int i64 u,int i64 d] 37)).alloc (.cells #[cv,a] 25)).alloc (.cells #[v0,v1,v2,v3,v4,v5] 53)).alloc (.cells #[int i64 0,int i64 0] 37)) w.heap.size u d cv a v0 v1 v2 v3 v4 v5:=by
 constructor
 all_goals first
  | exact(((K.Cl.new _ 37 _ _ rfl rfl).at (ba _ _)).at (ba _ _)).at (ba _ _)
  | exact((K.Cl.new _ 25 _ _ (by simp) rfl).at (ba _ _)).at (ba _ _)
  | exact(K.Cl.new _ 53 _ _ (by simp) rfl).at (ba _ _)
  | exact K.Cl.new _ 37 _ _ (by simp) rfl
theorem ebQ (u d lo hi:Int)(xa:Option Addr)(xc:Nat)(xs:List Int)(a:World)(h:Hid (yQ a a.heap.size a.heap.size (.slice xa xs.length xc) xs))(j:zX lo)(k:zX hi)(l:∀ n∈xs,zX n)(m:xs.length<=4096)(i:List (List Pt))(e2:Int)(g:Hid (sV u d lo hi xs=(i,e2))) :
  Calls prog 51 #[rv u d,int i64 lo,int i64 hi,.slice xa xs.length xc] a (o9 a i e2):=dyQ _ _ u d lo hi _ xs a (vQ _) h.out j k l (by omega) i e2 g.out
theorem ebX (B:Nat)(u d lo hi:Int)(cv tv v0 v1 v2 v3 v4 v5:Value)(l:List K.Ds.aQ)(ts:List K.Rw)(q:K.Ds.Qu)(w:World)(hB:B<=w.heap.size)(hp:K.kQ w B cv l)(hr:K.nQ w B tv ts)(hq:K.Qm w B q v0 v1 v2 v3 v4 v5)(b5:zX lo)(az:zX hi)
  (ls:List (List Pt)) (p' q' er:Int) (o:eA u d lo hi l (K.rr ts) q=(ls,p',q',er)) :
  Calls prog 23 #[rv u d,int i64 lo,int i64 hi,.agg #[cv,tv],.agg #[v0,v1,v2,v3,v4,v5]] w (bsJ w ls p' q' er):=by
 have HP:=qQ hp;have bv:=qQ hr;have HQ:=qQ hq;have HI:Hid (zX lo/\zX hi):=⟨b5,az⟩;obtain⟨⟨xs,e1⟩,hx⟩:∃ y,K.uY (K.lV l (K.rr ts) q)=y:=⟨_,rfl⟩;have T:=btQ hq hx;obtain⟨⟨hl,e2⟩,hh⟩:∃ y,sV u d lo hi xs=y:=⟨_,rfl⟩;obtain⟨⟨⟨b1,b2,b3⟩,e3⟩,ht⟩:∃ y,K.jU (K.typ l q)=y:=⟨_,rfl⟩;obtain⟨⟨p,q1,e4⟩,Q⟩:∃ y,dF u d b2=y:=⟨_,rfl⟩;unfold eA at o;rw[hx,hh,ht] at o;simp only at o;rw[Q] at o;simp only at o;obtain⟨la,lc,rfl,_⟩:=hp.slice;obtain⟨ra,rc,rfl,_⟩:=hr.slice;obtain⟨kk,kc,kl,kh,ka,kn,kd,kb,km,kp,rfl,rfl,rfl,rfl,rfl,rfl⟩:=hq.shape;have O:xQ w ((((w.alloc (.cells #[int i64 u,int i64 d] 37)).alloc (.cells #[.slice la l.length lc,.slice ra ts.length rc] 25)).alloc (.cells #[int i64 kk,.string kc,int i64 kl,int i64 kh,.slice ka kn kd,.slice kb km kp] 53)).alloc (.cells #[int i64 0,int i64 0] 37)):=bal (bal (bal (ba _ _) _) _) _;have h:Hid (Nb ((((w.alloc (.cells #[int i64 u,int i64 d] 37)).alloc (.cells #[.slice la l.length lc,.slice ra ts.length rc] 25)).alloc (.cells #[int i64 kk,.string kc,int i64 kl,int i64 kh,.slice ka kn kd,.slice kb km kp] 53)).alloc (.cells #[int i64 0,int i64 0] 37)) w.heap.size u d (.slice la l.length lc) (.slice ra ts.length rc) (int i64 kk) (.string kc) (int i64 kl) (int i64 kh) (.slice ka kn kd) (.slice kb km kp)):=Nb.new _ _ _ _ _ _ _ _ _ _ _;have au:Hid (K.uY (K.lV l (K.rr ts) q)=(xs,e1)/\xs.length<=4096/\(∀ n∈xs,zX n)):=⟨hx,T.1,T.2⟩;have ao:=qQ hh;have bw:=qQ ht;have br:=qQ Q;have HA:=qQ o;have cb:xs.length<=4096:=T.1;clear hx hh ht Q o hp hr hq T b5 az;obtain⟨w0,b6⟩:∃ w0,((((w.alloc (.cells #[int i64 u,int i64 d] 37)).alloc (.cells #[.slice la l.length lc,.slice ra ts.length rc] 25)).alloc (.cells #[int i64 kk,.string kc,int i64 kl,int i64 kh,.slice ka kn kd,.slice kb km kp] 53)).alloc (.cells #[int i64 0,int i64 0] 37))=w0:=⟨_,rfl⟩;rw[b6] at O h;have kr:=K.eaJ l ts q w0 B _ _ _ _ _ _ _ _ xs e1 (bQ hB O.size) (HP.out.at hB O) (bv.out.at hB O) (HQ.out.at hB O) au.out.1;have I:=h.out.r0.c;have J:=h.out.r1.c;have L:=h.out.t0.c;have M:=h.out.t1.c;have z:=h.out.a0.c;have A:=h.out.a1.c;have C:=h.out.a2.c;have D:=h.out.a3.c;have E:=h.out.a4.c;have F:=h.out.a5.c;have k:=h.out.z0.c;have m:=h.out.z1.c;have G:=h.out.z0.f;have H:=h.out.z1.f;go_enter func23,ntmps23;go_wp2_with fail;clear b6 I J L M z A C D E F k m G H;refine kr.mono ?_;rintro e w1 ⟨xa,xc,rfl,ax,Y⟩;have P:=bt O Y;have j:=qQ (h.out.at Y);have V:w.heap.size+1+1+1<w1.heap.size:=j.out.z0.lt;have bx:=qQ (aeQ ax (by omega));clear kr ax Y h O;by_cases h1:e1=0
 ·subst h1
  have o:=HA.out;rw[zQ (by simp)] at o;have I:=j.out.r0.c;have J:=j.out.r1.c;have L:=j.out.t0.c;have M:=j.out.t1.c;have z:=j.out.a0.c;have A:=j.out.a1.c;have C:=j.out.a2.c;have D:=j.out.a3.c;have E:=j.out.a4.c;have F:=j.out.a5.c;have k:=j.out.z0.c;have m:=j.out.z1.c;have G:=j.out.z0.f;have H:=j.out.z1.f;have b8:=ebQ u d lo hi xa xc xs w1 bx HI.out.1 HI.out.2 au.out.2.2 cb hl e2 ao;go_wp2_with fail;refine b8.mono ?_;rintro e w2 ⟨v2,zs,rfl,k1,k2,k3⟩;have X:Hid (fJ w2 w1.heap.size v2 zs/\rds zs=hl):=⟨k2.dssA,k1⟩;obtain⟨a2,c2,ca,_⟩:=k2.dssA;subst ca;have N:=bt P k3;have a:=qQ (j.out.at k3)
  have cc:zs.length<=4096:=by
   have e1:=congrArg List.length X.out.2;rw[bsZ] at e1;have:=btX ao.out;omega
  clear b8 k1 k2 k3 I J L M z A C D E F k m G H j;by_cases h2:e2=0
  ·subst h2
   rw[zQ (by simp)] at o;have I:=a.out.r0.c;have J:=a.out.r1.c;have L:=a.out.t0.c;have M:=a.out.t1.c;have z:=a.out.a0.c;have A:=a.out.a1.c;have C:=a.out.a2.c;have D:=a.out.a3.c;have E:=a.out.a4.c;have F:=a.out.a5.c;have k:=a.out.z0.c;have m:=a.out.z1.c;have G:=a.out.z0.f;have H:=a.out.z1.f;have kt:=K.d6Q l q w2 B _ _ _ _ _ _ _ b1 b2 b3 e3 (bQ hB N.size) (HP.out.at hB N) (HQ.out.at hB N) bw.out;go_wp2_with fail;refine kt.mono ?_;rintro e w3 ⟨rfl,R⟩;have ay:=bt N R;have i:Hid (Nb (w3.alloc (.cells #[int i64 b1,int i64 b2,int i64 b3] 131)) w.heap.size u d (.slice la l.length lc) (.slice ra ts.length rc) (int i64 kk) (.string kc) (int i64 kl) (int i64 kh) (.slice ka kn kd) (.slice kb km kp)):=(a.out.at R).at (ba _ _);have an:Hid (fJ (w3.alloc (.cells #[int i64 b1,int i64 b2,int i64 b3] 131)) w1.heap.size (.slice a2 zs.length c2) zs):=X.out.1.keep (bal R _);have Z:=bal ay (.cells #[int i64 b1,int i64 b2,int i64 b3] 131);clear kt R I J L M z A C D E F k m G H a;have I:=i.out.r0.c;have J:=i.out.r1.c;have L:=i.out.t0.c;have M:=i.out.t1.c;have z:=i.out.a0.c;have A:=i.out.a1.c;have C:=i.out.a2.c;have D:=i.out.a3.c;have E:=i.out.a4.c;have F:=i.out.a5.c;have k:=i.out.z0.c;have m:=i.out.z1.c;have G:=i.out.z0.f;have H:=i.out.z1.f;go_wp2_with fail;refine(dvZ u d b2 p q1 e4 br.out _).mono ?_;rintro e w4 ⟨rfl,S⟩;have U:=bt Z S;have aq:=qQ (i.out.at S);have bp:=qQ (an.out.keep S);clear S I J L M z A C D E F k m G H i an;by_cases h4:e4=0
   ·subst h4
    rw[zQ (by simp)] at o;simp only[cQ] at o;obtain⟨rfl,rfl,rfl,rfl⟩:=o;have g:Hid (Nb (w4.alloc (.cells #[int i64 p,int i64 q1] 37)) w.heap.size u d (.slice la l.length lc) (.slice ra ts.length rc) (int i64 kk) (.string kc) (int i64 kl) (int i64 kh) (.slice ka kn kd) (.slice kb km kp)):=aq.out.at (ba _ _);have bn:Hid (Fc w4.heap.size p q1 (w4.alloc (.cells #[int i64 p,int i64 q1] 37))):=boJ _ _ _;obtain⟨j1,j2,j3,j4⟩:=bn.out;obtain⟨W,hW⟩:∃ W,w4.alloc (.cells #[int i64 p,int i64 q1] 37)=W:=⟨_,rfl⟩;have bz:xQ w W:=hW▸bal U _;have bq:Hid (fJ W w1.heap.size (.slice a2 zs.length c2) zs):=hW▸bp.out.keep (ba _ _);rw[hW] at g j1 j2 j3 j4;have I:=g.out.r0.c;have J:=g.out.r1.c;have L:=g.out.t0.c;have M:=g.out.t1.c;have z:=g.out.a0.c;have A:=g.out.a1.c;have C:=g.out.a2.c;have D:=g.out.a3.c;have E:=g.out.a4.c;have F:=g.out.a5.c;have k:=g.out.z0.c;have m:=g.out.z1.c;have G:=g.out.z0.f;have H:=g.out.z1.f;go_wp2_with fail;clear hW
    go_region_law (fail)
    go_wp2;exact bodyPost_ret (v:=.tuple #[.slice a2 zs.length c2,rv p q1,int i64 0]) (by simp[results,results23,go_sem,k,m]) rfl ⟨_,zs,rfl,X.out.2,(((bq.out.set V).set V).mono P.size).keep (Below.refl _ _).drew,cc,(bs (bs bz (by dsimp only;omega) _) (by dsimp only;omega) _).drew⟩
   ·have h5:(e4 == 0)=false:=by simpa using h4
    have h6:(e4 != 0)=true:=by simpa using h4
    rw[if_pos h4] at o;simp only[Prod.mk.injEq] at o;obtain⟨rfl,rfl,rfl,rfl⟩:=o;have g:Hid (Nb (w4.alloc (.cells #[int i64 p,int i64 q1] 37)) w.heap.size u d (.slice la l.length lc) (.slice ra ts.length rc) (int i64 kk) (.string kc) (int i64 kl) (int i64 kh) (.slice ka kn kd) (.slice kb km kp)):=aq.out.at (ba _ _);have I:=g.out.r0.c;have J:=g.out.r1.c;have L:=g.out.t0.c;have M:=g.out.t1.c;have z:=g.out.a0.c;have A:=g.out.a1.c;have C:=g.out.a2.c;have D:=g.out.a3.c;have E:=g.out.a4.c;have F:=g.out.a5.c;have k:=g.out.z0.c;have m:=g.out.z1.c;have G:=g.out.z0.f;have H:=g.out.z1.f;go_wp2_with fail;exact bodyPost_ret (v:=.tuple #[.slice none 0 0,rv 0 0,int i64 e4]) (by simp[results,results23,go_sem,k,m]) rfl ⟨_,[],rfl,rfl,fJ.nil _ _,by simp,bs (bs (bal U _) (by dsimp only;omega) _) (by dsimp only;omega) _⟩
  ·have h5:(e2 == 0)=false:=by simpa using h2
   have h6:(e2 != 0)=true:=by simpa using h2
   rw[if_pos h2] at o;simp only[Prod.mk.injEq] at o;obtain⟨rfl,rfl,rfl,rfl⟩:=o;have I:=a.out.r0.c;have J:=a.out.r1.c;have L:=a.out.t0.c;have M:=a.out.t1.c;have z:=a.out.a0.c;have A:=a.out.a1.c;have C:=a.out.a2.c;have D:=a.out.a3.c;have E:=a.out.a4.c;have F:=a.out.a5.c;have k:=a.out.z0.c;have m:=a.out.z1.c;have G:=a.out.z0.f;have H:=a.out.z1.f;go_wp2_with fail;exact bodyPost_ret (v:=.tuple #[.slice none 0 0,rv 0 0,int i64 e2]) (by simp[results,results23,go_sem,k,m]) rfl ⟨_,[],rfl,rfl,fJ.nil _ _,by simp,bs (bs N (by dsimp only;omega) _) (by dsimp only;omega) _⟩
 ·have o:=HA.out
  have h5:(e1 == 0)=false:=by simpa using h1
  have h6:(e1 != 0)=true:=by simpa using h1
  rw[if_pos h1] at o;simp only[Prod.mk.injEq] at o;obtain⟨rfl,rfl,rfl,rfl⟩:=o;have I:=j.out.r0.c;have J:=j.out.r1.c;have L:=j.out.t0.c;have M:=j.out.t1.c;have z:=j.out.a0.c;have A:=j.out.a1.c;have C:=j.out.a2.c;have D:=j.out.a3.c;have E:=j.out.a4.c;have F:=j.out.a5.c;have k:=j.out.z0.c;have m:=j.out.z1.c;have G:=j.out.z0.f;have H:=j.out.z1.f;go_wp2_with fail;exact bodyPost_ret (v:=.tuple #[.slice none 0 0,rv 0 0,int i64 e1]) (by simp[results,results23,go_sem,k,m]) rfl ⟨_,[],rfl,rfl,fJ.nil _ _,by simp,bs (bs P (by dsimp only;omega) _) (by dsimp only;omega) _⟩
theorem btZ {k d:List Pt}(h:iV k=(d,0))(y:∀ p∈k,∃ z,p.1=[z]):∀ p∈d,∃ z,p.1=[z]:=by
 intro p v;obtain⟨i,g,o,A,_⟩:=f9 h;have j:=bnQ i.rise i.pos v;have l:0<wt k p.1:=by rw[A];exact Int.mul_pos o j
 obtain⟨C,a,m⟩:=bmJ l;obtain⟨z,B⟩:=y C a;exact⟨z,by rw[<-m,B]⟩
theorem ecQ {lo hi n:Int}{l:List Pt}(h:jJ u d lo hi n=(l,0)):fU l=(l,0)/\∀ p∈l,∃ z,p.1=[z]:=by
 unfold jJ at h;split at h
 ·simp only[cQ] at h;rename_i c;exact absurd h.2 c
 ·split at h
  ·simp at h
  ·split at h
   ·exact⟨(f9 h).1.own,btZ h (by simp)⟩
   ·split at h
    ·simp at h
    ·exact⟨(f9 h).1.own,btZ h (by
      intro p a;obtain⟨i,_,rfl⟩:=iJ.1 a;exact⟨_,rfl⟩)⟩
theorem btJ {u d lo hi:Int}:∀ {ns:List Int} {ls:List (List Pt)},sV u d lo hi ns=(ls,0)->ls.length=ns.length/\∀ x∈ls,∃ n,jJ u d lo hi n=(x,0)
 | [],ls,h=>by simp only[sV,cQ] at h;obtain⟨rfl,_⟩:=h;exact⟨rfl,fun x a=>by cases a⟩
 | n::ns,ls,h=>by
  simp only[sV] at h;by_cases c1:(jJ u d lo hi n).2=0
  ·rw[zQ (by simpa using c1)] at h
   by_cases c2:(sV u d lo hi ns).2=0
   ·rw[zQ (by simpa using c2)] at h
    simp only[cQ,sO] at h;subst h;have g:=btJ (ns:=ns) (ls:=(sV u d lo hi ns).1) (by rw[<-c2]);refine⟨by simp[g.1],fun x a=>?_⟩;rcases kJ.1 a with rfl|a
    ·exact⟨n,by rw[<-c1]⟩
    ·exact g.2 x a
   ·rw[jQ c2] at h
    simp only[cQ] at h;exact absurd h.2 c2
  ·rw[jQ c1] at h
   simp only[cQ] at h;exact absurd h.2 c1
def Tel (ls:List (List Pt)):Prop:=∀ x∈ls,fU x=(x,0)/\∀ p∈x,∃ z,p.1=[z]
theorem aeZ {lo hi:Int}{l:List K.Ds.aQ}{q:K.Ds.Qu}{ls:List (List Pt)}(h:eA u d lo hi l rs q=(ls,p,q',0)):Tel ls/\(K.uY (K.lV l rs q)).2=0/\ls.length=(K.uY (K.lV l rs q)).1.length/\dF u d (K.jU (K.typ l q)).1.2.1=(p,q',0):=by
 unfold eA at h;by_cases c1:(K.uY (K.lV l rs q)).2=0
 ·rw[zQ (by simpa using c1)] at h
  by_cases c2:(sV u d lo hi (K.uY (K.lV l rs q)).1).2=0
  ·rw[zQ (by simpa using c2)] at h
   by_cases c3:(dF u d (K.jU (K.typ l q)).1.2.1).2.2=0
   ·rw[zQ (by simpa using c3)] at h
    simp only[cQ,sO] at h;obtain⟨rfl,rfl,rfl⟩:=h;obtain⟨a,g⟩:=btJ (u:=u) (d:=d) (lo:=lo) (hi:=hi) (ns:=(K.uY (K.lV l rs q)).1) (ls:=(sV u d lo hi (K.uY (K.lV l rs q)).1).1) (by rw[<-c2]);exact⟨fun x hx=>let ⟨n,hn⟩:=g x hx;ecQ hn,c1,a,by rw[<-c3]⟩
   ·rw[jQ c3] at h
    simp only[cQ] at h;exact absurd h.2.2.2 c3
  ·rw[jQ c2] at h
   simp only[cQ] at h;exact absurd h.2.2.2 c2
 ·rw[jQ c1] at h
  simp only[cQ] at h;exact absurd h.2.2.2 c1
theorem ecX {pl:Int}{l:List Pt}(h:o∈uZ T pl l):∃ p∈l,p.1=o:=by
 induction l with
 | nil=>simp[uZ] at h
 | cons p l ih =>
  rw[x9] at h;split at h
  ·rcases kJ.1 h with rfl|h
   ·exact⟨p,by simp,rfl⟩
   ·obtain⟨q,a,e⟩:=ih h
    exact⟨q,by simp[a],e⟩
  ·obtain⟨q,a,e⟩:=ih h
   exact⟨q,by simp[a],e⟩
theorem buQ {l:List Pt}{pl nd u0:Int}(h:aU T l pl nd u0 bits=some (o,u,r)):∃ p∈l,p.1=o:=by
 induction bits generalizing pl nd u0 with
 | nil=>cases h
 | cons b bits ih =>
  simp only[aU] at h;cases e:(uZ T pl l)[(2*nd+b).toNat]? with
  | some o' =>
   rw[e] at h;simp only[aZ,cQ] at h;obtain⟨rfl,_⟩:=h;exact ecX (qX e)
  | none =>
   rw[e] at h;exact ih h
theorem buX {l:List Pt}(h:cV l bits=some (o,u,r)):∃ p∈l,p.1=o:=by
 match l,h with
 | [p],h =>
  simp only[cV,aZ,cQ] at h;exact⟨p,by simp,h.1⟩
 | [],h=>exact buQ (show aU _ _ _ _ _ bits=_ from h)
 | _::_::_,h=>exact buQ (show aU _ _ _ _ _ bits=_ from h)
def fZ:List (List Pt)->List Int->Nat->List Int->Option (List Int × Nat)
 | [],_,us,vs=>some (vs,us)
 | d::r,bits,us,vs=>match cV d (bits.drop us) with
  | none=>none
  | some (o,k,_)=>fZ r bits (us+k.toNat) (vs++[o.getD 0 0])
theorem uK (zs:List Dz):(rds zs).length=zs.length:=by simp[rds]
def DnP (ls:List (List Pt)) (bits:List Int) (w:World) (e:Ending) (w':World):Prop :=
 xQ w w'/\((fZ ls bits 0 []=none/\e=.returned (.tuple #[.slice none 0 0,int i64 0,.bool false])) \/
  (∃ vs us,fZ ls bits 0 []=some (vs,us)/\vs.length=ls.length/\us<=bits.length/\e=.returned (.tuple #[.slice (some ⟨w.heap.size,0,none⟩) vs.length vs.length,int i64 (us:Int),.bool true])/\K.RowI w' w.heap.size vs))
theorem ecJ (B nb:Nat)(pv u:Value)(zs:List Dz)(bits:List Int)(w:World)(hB:B<=w.heap.size)(V:kM w B pv zs)(br:zs.length<=4096)(ht:Tel (rds zs))(Q:yQ w B nb u bits)(I:∀ n c,u=.slice none n c->c=0)(G:kY bits=false)(b6:bits.length<=65536) :
  Calls prog 26 #[pv,u] w (DnP (rds zs) bits w):=by
 have HV:=qQ Q;have HP:=qQ V;have HT:=qQ ht;have R:=qQ G;have T:=qQ I;have bn:=K.zM zs.length (by omega);obtain⟨pa,pc,rfl,bp,_⟩:=V;obtain⟨a,c,rfl,hc,hl,_⟩:=Q;have ah:=qQ (K.RowI.made w zs.length);clear G ht I;go_enter func26,ntmps26;go_wp2
 go_loopw [18,8] (fun iv uv wr=>∃ (i g:Nat) (l:List Int),iv=int i64 (i:Int)/\uv=int i64 (g:Int)/\i<=zs.length/\g<=bits.length/\Hid (l.length=i/\fZ (rds zs) bits 0 []=fZ ((rds zs).drop i) bits g l)/\Hid (xQ w wr)/\Hid (K.RowI wr w.heap.size (l++List.replicate (zs.length - i) 0))) (fun iv _ _=>zs.length - (intOf iv).toNat)
 case atStart=>exact⟨0,0,[],rfl,rfl,dQ _,dQ _,⟨rfl,rfl⟩,ba _ _,ah⟩
 case round =>
  obtain⟨i,g,l,rfl,rfl,hi,Y,F,M,HR⟩:=hrel;by_cases h1:i<zs.length
  ·obtain⟨b,o,na,nc,ts,rfl,hb,U,d1,hP⟩:=HP.out.get hB M.out h1
   have au:=M.out.size;have a6:w.heap.size<wr.heap.size:=HR.out.lt;have P:(rds zs)[i]? = some (rd ts):=by rw[rds,mV,U];rfl
   have C:=HT.out (rd ts) (qX P)
   obtain⟨A,N,hA⟩:∃ A,yQ wr B nb (.slice A (bits.drop g).length (c - g)) (bits.drop g)/\(if c=g then a else a.map (fun p=>p.add g))=A:=by
    refine⟨_,?_,rfl⟩;have Q:=HV.out.at hB M.out;cases a with
    | none =>
     have am:=T.out _ _ rfl;obtain rfl:g=0:=by omega
     rw[jQ am,nL];exact Q
    | some p =>
     obtain⟨a',c',aq,bj,bm,aw⟩:=id Q;cases aq;by_cases he:bits=[]
     ·subst he
      rw[List.drop_nil];exact⟨_,_,rfl,by simp,by simp,fun h=>absurd rfl h⟩
     ·obtain⟨b',o',al,_⟩:=aw he
      cases al;have h2:=Q.drop2 g Y;rw[Option.map_some,bJ];exact h2
   have y:(bits.drop g).length=bits.length - g:=pF;rw[y] at N;have kd:=ebJ B nb (.slice na ts.length nc) (.slice A (bits.length - g) (c - g)) ts (bits.drop g) wr (bQ hB au) hP N (xB R.out g) (by omega) C.1;have S:=qQ P;have aj:=qQ C.2;clear U P C N y hP;go_wp2_with fail;refine kd.mono ?_;rintro e w5 ⟨E,⟨H,rfl⟩|⟨ya,yc,oo,k,r,H,rfl,O⟩⟩
   ·have HN:Hid (fZ (rds zs) bits 0 []=none):=by
     rw[Hid,F.out.2,eV (by rw[uK];exact h1)];have e:=(fQ.1 S.out).2;rw[e,fZ,H]
    clear kd hA H;go_wp2;exact eQ (v:=.tuple #[.slice none 0 0,int i64 0,.bool false]) (by simp[results,results26,go_sem]) rfl ⟨bal (bt M.out E) _,.inl ⟨HN.out,rfl⟩⟩
   ·obtain⟨p,V,rfl⟩:=buX H
    obtain⟨z,hz⟩:=aj.out p V;rw[hz] at H O ⊢;obtain⟨j,an,hj,_⟩:=bmZ H;subst an;have y:(bits.drop g).length=bits.length - g:=pF;rw[y] at hj
    have HN:Hid (fZ (rds zs) bits 0 []=fZ ((rds zs).drop (i+1)) bits (g+j) (l++[z])):=by
     rw[Hid,F.out.2,eV (by rw[uK];exact h1)];have e:=(fQ.1 S.out).2;rw[e,fZ,H];rfl
    obtain⟨_,_,Z,_,_,a7⟩:=O 0 (by omega);simp only[yZ,oK] at Z;obtain⟨rfl,-,rfl⟩:=Z;obtain⟨yb,yo,rfl,_,_,m⟩:=a7 (by simp);have c5:=m 0 z rfl;rw[fI] at c5;have a9:w.heap.size<w5.heap.size:=lQ a6 E.size;have ak:=qQ (bt M.out E);have L:=qQ (HR.out.keep E a6);have ao:(l++List.replicate (zs.length - i) 0).length=zs.length:=by simp[F.out.1];omega
    obtain⟨y0,a8⟩:∃ y0,(l++List.replicate (zs.length - i) 0)[i]? = some y0:=⟨_,nZ (by omega)⟩;have q1:=L.out.cells i y0 a8;have q2:=L.out.thaw i (by omega)
    have J:(l++List.replicate (zs.length - i) 0).set i z=l++[z]++List.replicate (zs.length - (i+1)) 0:=by
     rw[xS _ _ (by rw[F.out.1];exact vQ _),F.out.1,iI,show zs.length - i=(zs.length - (i+1))+1 by omega,List.replicate_succ];simp
    have FR:Hid (∀ X,xQ w5 X->K.RowI (X.setCell ⟨w.heap.size,i,none⟩ (int i64 z)) w.heap.size (l++[z]++List.replicate (zs.length - (i+1)) 0)):=fun X hX=>by
     rw[<-J];exact(L.out.keep hX a9).set i z
    have D:Hid ((l++[z]).length=i+1):=by rw[Hid,sY,F.out.1];rfl
    have bq:IntKind.i64.wrap ((g:Int)+(j:Int))=((g+j:Nat):Int):=by rw[lJ];omega
    have z1:(i:Int)<(zs.length:Int):=by omega
    clear kd hA H O a7 m a8 J ao y V hz HR M;go_wp2;refine⟨⟨i+1,g+j,l++[z],by go_num,by simp,h1,by omega,⟨D.out,HN.out⟩,bal (bs ak.out (by simp) _) _,?_⟩,by simp[intOf];omega⟩;exact(FR.out w5 (uQ _ _)).keep (ba _ _) (by simpa using a9)
  ·obtain rfl:i=zs.length:=by omega
   have HE:=F.out.2;rw[nG (by rw[uK];exact vQ _),fZ] at HE;have af:=qQ HE;have hR:=HR.out;rw[iI,List.replicate_zero,bG] at hR;have ai:=qQ hR;have D:=qQ F.out.1;clear HE hR;go_wp2;exact eQ (v:=.tuple #[.slice (some ⟨w.heap.size,0,none⟩) zs.length zs.length,int i64 (g:Int),.bool true]) (by simp[results,results26,go_sem]) rfl ⟨M.out,.inr ⟨l,g,af.out,by rw[uK,D.out],Y,by rw[D.out],ai.out⟩⟩
end
namespace K.P
open Go.RowKit K.Ds
theorem edQ:(prog.info? 108).map (fun i=>(i.zero,i.size,i.bytes))=some (some (.agg #[.string ⟨#[]⟩,int i64 0]),2,24):=by kernel_rfl
theorem edX:(prog.info? 35).map (fun i=>(i.zero,i.size,i.bytes))=some (some (.slice none 0 0),1,24):=by kernel_rfl
theorem eB:(prog.info? 3).map (fun i=>(i.zero,i.size,i.bytes))=some (some (int i64 0),1,8):=by kernel_rfl
theorem edZ (a:Option Addr)(n c:Nat)(xs:List Value)(w:World)(C:xs.length=n*2)(L:n<=1000000)(ha:a=none->n=0)(v:∀ ad,a=some ad->∀ j u,xs[j]? = some u->ad.block<w.heap.size/\w.cell? (ad.add j)=some u)(h:∀ u∈xs,u.oneCell' = true) :
  Calls prog 40 #[.slice a n c] w fun e w'=>∃ l,e=.returned l/\w'.ownsRow w.heap.size 108 2 l n xs/\xQ w w':=by
 have J:∀ (w:World) (a:Option Addr) (n c n' c':Nat),(binOp .eql 22 (.slice a n c) (.slice none n' c')).run prog w=.ok (.bool a.isNone) w:=fun w a n c n' c'=>tO w _ _ a n c n' c' underlying22;cases a with
 | none =>
  obtain rfl:=ha rfl;obtain rfl:xs=[]:=oL.1 (by omega);clear v h;go_enter func40,ntmps40;go_wp2;go_ret;exact⟨_,rfl,⟨rfl,.inl ⟨rfl,rfl⟩⟩,uQ _ _⟩
 | some ad =>
  have A:Hid (∀ j u,xs[j]? = some u->∀ o,(w.alloc o).cell? (ad.add j)=some u):=by
   intro j u p o;obtain⟨F,G⟩:=v ad rfl j u p;rw[pH _ _ _ (by unfold Addr.add;split <;> simpa using F)];exact G
  obtain⟨I,hi,y,z,B⟩:=pZ edQ;have m:=qQ h;have E:=qQ C;clear v h ha C;go_enter func40,ntmps40;go_wp2_with (at_builtin;refine qF _ rfl _ _ 22 rfl w.heap.size 108 I (.agg #[.string ⟨#[]⟩,int i64 0]) 2 24 underlying22 hi y z B rfl (by decide) _ _ _ rfl (wO w #[] 0 (vQ _) (dQ _) (by simp)) ad n c xs rfl ?qc1 ?qc2 ?qc3 ?qc4 ?qc5 ?qc6 ?_)
  case qc1=>exact E.out
  case qc2=>intro j u p;exact A.out j u p _
  case qc3=>exact m.out
  case qc4=>rw[vX];simp[maxLen];omega
  case qc5=>rw[vX];omega
  case qc6=>simp
  intro l M i g D;go_wp2;go_ret;refine⟨l,rfl,by simpa using i,((uQ _ w).alloc (vQ _) _).grown g (by simp) (by intro k H;simp[Value.ownBlock] at H;omega)⟩
theorem edJ (a:Option Addr)(n c:Nat)(xs:List Value)(w:World)(C:xs.length=n*1)(L:n<=1000000)(ha:a=none->n=0)(v:∀ ad,a=some ad->∀ j u,xs[j]? = some u->ad.block<w.heap.size/\w.cell? (ad.add j)=some u)(h:∀ u∈xs,u.oneCell' = true) :
  Calls prog 41 #[.slice a n c] w fun e w'=>∃ l,e=.returned l/\w'.ownsRow w.heap.size 35 1 l n xs/\xQ w w':=by
 have J:∀ (w:World) (a:Option Addr) (n c n' c':Nat),(binOp .eql 23 (.slice a n c) (.slice none n' c')).run prog w=.ok (.bool a.isNone) w:=fun w a n c n' c'=>tO w _ _ a n c n' c' underlying23;cases a with
 | none =>
  obtain rfl:=ha rfl;obtain rfl:xs=[]:=oL.1 (by omega);clear v h;go_enter func41,ntmps41;go_wp2;go_ret;exact⟨_,rfl,⟨rfl,.inl ⟨rfl,rfl⟩⟩,uQ _ _⟩
 | some ad =>
  have A:Hid (∀ j u,xs[j]? = some u->∀ o,(w.alloc o).cell? (ad.add j)=some u):=by
   intro j u p o;obtain⟨F,G⟩:=v ad rfl j u p;rw[pH _ _ _ (by unfold Addr.add;split <;> simpa using F)];exact G
  obtain⟨I,hi,y,z,B⟩:=pZ edX;have m:=qQ h;have E:=qQ C;clear v h ha C;go_enter func41,ntmps41;go_wp2_with (at_builtin;refine qF _ rfl _ _ 23 rfl w.heap.size 35 I (.slice none 0 0) 1 24 underlying23 hi y z B rfl (by decide) _ _ _ rfl (wO w #[] 0 (vQ _) (dQ _) (by simp)) ad n c xs rfl ?qc1 ?qc2 ?qc3 ?qc4 ?qc5 ?qc6 ?_)
  case qc1=>exact E.out
  case qc2=>intro j u p;exact A.out j u p _
  case qc3=>exact m.out
  case qc4=>rw[vX];simp[maxLen];omega
  case qc5=>rw[vX];omega
  case qc6=>simp
  intro l M i g D;go_wp2;go_ret;refine⟨l,rfl,by simpa using i,((uQ _ w).alloc (vQ _) _).grown g (by simp) (by intro k H;simp[Value.ownBlock] at H;omega)⟩
theorem eeQ (a:Option Addr)(n c:Nat)(xs:List Value)(w:World)(C:xs.length=n*1)(L:n<=1000000)(ha:a=none->n=0)(v:∀ ad,a=some ad->∀ j u,xs[j]? = some u->ad.block<w.heap.size/\w.cell? (ad.add j)=some u)(h:∀ u∈xs,u.oneCell' = true) :
  Calls prog 43 #[.slice a n c] w fun e w'=>∃ l,e=.returned l/\w'.ownsRow w.heap.size 3 1 l n xs/\xQ w w':=by
 have J:∀ (w:World) (a:Option Addr) (n c n' c':Nat),(binOp .eql 35 (.slice a n c) (.slice none n' c')).run prog w=.ok (.bool a.isNone) w:=fun w a n c n' c'=>tO w _ _ a n c n' c' underlying35;cases a with
 | none =>
  obtain rfl:=ha rfl;obtain rfl:xs=[]:=oL.1 (by omega);clear v h;go_enter func43,ntmps43;go_wp2;go_ret;exact⟨_,rfl,⟨rfl,.inl ⟨rfl,rfl⟩⟩,uQ _ _⟩
 | some ad =>
  have A:Hid (∀ j u,xs[j]? = some u->∀ o,(w.alloc o).cell? (ad.add j)=some u):=by
   intro j u p o;obtain⟨F,G⟩:=v ad rfl j u p;rw[pH _ _ _ (by unfold Addr.add;split <;> simpa using F)];exact G
  obtain⟨I,hi,y,z,B⟩:=pZ eB;have m:=qQ h;have E:=qQ C;clear v h ha C;go_enter func43,ntmps43;go_wp2_with (at_builtin;refine qF _ rfl _ _ 35 rfl w.heap.size 3 I (int i64 0) 1 8 underlying35 hi y z B rfl (by decide) _ _ _ rfl (wO w #[] 0 (vQ _) (dQ _) (by simp)) ad n c xs rfl ?qc1 ?qc2 ?qc3 ?qc4 ?qc5 ?qc6 ?_)
  case qc1=>exact E.out
  case qc2=>intro j u p;exact A.out j u p _
  case qc3=>exact m.out
  case qc4=>rw[vX];simp[maxLen];omega
  case qc5=>rw[vX];omega
  case qc6=>simp
  intro l M i g D;go_wp2;go_ret;refine⟨l,rfl,by simpa using i,((uQ _ w).alloc (vQ _) _).grown g (by simp) (by intro k H;simp[Value.ownBlock] at H;omega)⟩
