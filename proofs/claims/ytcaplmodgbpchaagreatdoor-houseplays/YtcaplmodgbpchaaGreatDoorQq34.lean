import Derived.Test.YtcaplmodgbpchaaGreatDoorQq33
open Go.Proofs.Tryz
open Go.Value(int)
open Go.IntKind(i64)
set_option linter.unusedSimpArgs false
set_option maxHeartbeats 16000000
set_option maxRecDepth 100000
namespace Go.Proofs.YtcaplmodgbpchaaGreatDoor
variable {B B' b base bh c cc g h i j k m n rb rc sz:Nat} {cv cv' rv' u v:Value} {W W' w w' w3 w4:World} {rs xs:List Value} {t:TypeId} {a ca ra:Option Addr} {M N:Nat->Prop} {ts:List (List Int)} {s:ByteArray} {er p q' z:Int}
namespace K.P
open Go.RowKit K.Ds
def lF (l:List aQ):List Value:=l.flatMap fun c=>[.string c.1,int i64 c.2]
theorem buZ (l:List aQ):(lF l).length=l.length*2:=by
 induction l with
 | nil=>rfl
 | cons c l ih=>simp only[lF,eC,sY,cD] at *;rw[ih];simp;omega
theorem vR:∀ {l:List aQ} {i:Nat} {c:aQ},l[i]? = some c->(lF l)[i*2]? = some (.string c.1)/\(lF l)[i*2+1]? = some (int i64 c.2)
 | c0::l,0,c,h=>by simp at h;subst h;exact⟨rfl,rfl⟩
 | c0::l,i+1,c,h=>by
  have a:=vR (l:=l) (i:=i) (c:=c) (by simpa using h);have e:lF (c0::l)=.string c0.1::int i64 c0.2::lF l:=rfl;rw[e,show(i+1)*2=i*2+1+1 by omega];simpa using a
theorem eeX {l:List aQ}(h:(lF l)[j]? = some u):∃ i c,l[i]? = some c/\(j=i*2/\u=.string c.1\/j=i*2+1/\u=int i64 c.2):=by
 have k:j<l.length*2:=by rw[<-buZ];exact(fQ.1 h).1
 obtain⟨c,hc⟩:∃ c,l[j / 2]? = some c:=⟨_,nZ (by omega)⟩;obtain⟨a,g⟩:=vR hc;rcases (show j=j / 2*2\/j=j / 2*2+1 by omega) with e|e
 ·rw[<-e] at a
  rw[a] at h;exact⟨j / 2,c,hc,.inl ⟨e,(Option.some.inj h).symm⟩⟩
 ·rw[<-e] at g
  rw[g] at h;exact⟨j / 2,c,hc,.inr ⟨e,(Option.some.inj h).symm⟩⟩
abbrev zs:Value:=.slice none 0 0
structure CpS (w:World) (cv rv:Value) (W:World):Prop where
 b:xQ w W
 e:TwoB W w.heap.size cv rv
 r:TwoB W (w.heap.size+1) zs zs
 s:w.heap.size+2<=W.heap.size
theorem CpS.at {rv:Value}(h:CpS w cv rv W)(a:xQ W W'):CpS w cv rv W' :=
 ⟨bt h.b a,h.e.below a,h.r.below a,bQ h.s a.size⟩
theorem CpS.cells {rv:Value}(h:CpS w cv rv W):W.cell? ⟨w.heap.size,0,none⟩=some cv/\W.cell? ⟨w.heap.size,1,none⟩=some rv:=⟨h.e.c0,h.e.c1⟩
theorem fB {rv:Value}(h:CpS w cv rv W)(i:w.heap.size+2<=g)(u a:Value):CpS w cv rv ((W.setCell ⟨g,0,none⟩ u).setCell ⟨g,1,none⟩ a) :=
 ⟨bs (bs h.b (by simp;omega) _) (by simp;omega) _,h.e.gb (aX (aX (wX _ (some g)) _ _) _ _) (by simp;omega),h.r.gb (aX (aX (wX _ (some g)) _ _) _ _) (by simp;omega),by simpa [World.setCell] using h.s⟩
theorem eeZ (a:Below (W.alloc (.cells #[zs,zs] 25)).drew.heap.size (W.alloc (.cells #[zs,zs] 25)).drew w3):TwoB w3 W.heap.size zs zs :=
 ((TwoB.new W _ _ 25 _ rfl).below (uQ _ _).drew).below a
theorem eeJ (a:Below (W.alloc (.cells #[zs,zs] 25)).heap.size (W.alloc (.cells #[zs,zs] 25)) w3):TwoB w3 W.heap.size zs zs :=
 (TwoB.new W _ _ 25 _ rfl).below a
structure CpR (w:World) (cv rv:Value) (l:List aQ) (rs:List Value) (g:Nat) (cv' rv':Value) (W:World):Prop where
 s:CpS w cv rv W
 g2:w.heap.size+2<=g
 t:TwoB W g cv' rv'
 c:W.ownsRow (w.heap.size+2) 108 2 cv' l.length (lF l)
 r:W.ownsRow (w.heap.size+2) 35 1 rv' rs.length rs
 d:∀ x,cv'.ownBlock=some x->x≠g/\rv'.ownBlock≠some x
 d2:∀ x,rv'.ownBlock=some x->x≠g
theorem buJ {rv:Value}{l:List aQ}(i:CpS w cv rv w4)(h:w.heap.size+2<=g)(m:TwoB w4 g zs zs)(hc:w4.ownsRow (w.heap.size+2) 108 2 cv' l.length (lF l))(k:w4.ownsRow (w.heap.size+2) 35 1 rv' rs.length rs)(d:∀ x,cv'.ownBlock=some x->x≠g/\rv'.ownBlock≠some x)(d2:∀ x,rv'.ownBlock=some x->x≠g) :
  CpR w cv rv l rs g cv' rv' ((w4.setCell ⟨g,0,none⟩ cv').setCell ⟨g,1,none⟩ rv'):=by
 have a:w4.grownBy ((w4.setCell ⟨g,0,none⟩ cv').setCell ⟨g,1,none⟩ rv') (some g):=aX (aX (wX _ (some g)) _ _) _ _;refine⟨fB i h _ _,h,?_,sZ hc a (fun x hx e=>(d x hx).1 (by simpa using e.symm)),sZ k a (fun x hx e=>d2 x hx (by simpa using e.symm)),d,d2⟩;obtain⟨c0,c1,f0,f1,j⟩:=m;constructor <;> simp[oR,pR,uU,c0,c1,f0,f1,j,go_sem]
theorem efQ {pre l:List aQ}(h:tV pre l=0):∀ c∈l,c.1.size<=32:=by
 induction l generalizing pre with
 | nil=>intro c hc;cases hc
 | cons c r ih =>
  simp only[tV] at h;split at h
  ·rename_i hn
   split at h
   ·cases h
   ·split at h
    ·cases h
    ·intro d a
     rcases kJ.1 a with rfl|a
     ·unfold mJ at hn
      simp only[eI,dJ] at hn;have g:=hn.1.2;rw[rL] at g;exact g
     ·exact ih h d a
  ·cases h
theorem CpR.at {rv:Value}{l:List aQ}(h:CpR w cv rv l rs g cv' rv' W)(a:xQ W W'):CpR w cv rv l rs g cv' rv' W' :=
 ⟨h.s.at a,h.g2,h.t.below a,sZ h.c (cZ a) (by simp),sZ h.r (cZ a) (by simp),h.d,h.d2⟩
def vI (w:World) (lo rb:Nat) (us:List Rw):Prop:=∀ u∈us,∃ gb c,u.1=.slice (some ⟨gb,0,none⟩) u.2.length c/\u.2.length<=c/\lo<=gb/\rb<gb/\∀ k x,u.2[k]? = some x->Cl w gb k (int i64 x)
theorem vI.at {lo:Nat}{us:List Rw}(h:vI w lo rb us)(m:xQ w w'):vI w' lo rb us:=fun u hu=>by
 obtain⟨gb,c,a,g,i,j,l⟩:=h u hu;exact⟨gb,c,a,g,i,j,fun k x hx=>(l k x hx).at m⟩
theorem vI.set {lo:Nat}{us:List Rw}(h:vI w lo rb us)(v:Value):vI (w.setCell ⟨rb,i,none⟩ v) lo rb us:=fun u hu=>by
 obtain⟨gb,c,a,g,j,l,m⟩:=h u hu;exact⟨gb,c,a,g,j,l,fun k x hx=>(m k x hx).oth (.inl (by omega)) _⟩
theorem efX (h:w.cell? ⟨b,k,none⟩=some v):w.setCell ⟨b,k,none⟩ v=w:=by
 have g:(w.setCell ⟨b,k,none⟩ v).heap=w.heap:=by
  apply Array.ext
  ·simp[World.setCell]
  ·intro j o l
   unfold World.setCell;simp only;rw[Array.getElem_modify];split
   ·rename_i e
    subst e;cases hx:w.heap[b] with
    | cells c e f =>
     have i:c[k]? = some v:=by
      simpa [World.cell?,Array.getElem?_eq_getElem l,hx] using h
     have:c.setIfInBounds k v=c:=by
      apply Array.ext_getElem?;intro m;rw[Array.getElem?_setIfInBounds];split
      ·rename_i e2
       subst e2;have a:=(mY.1 i).1;rw[jQ a,i]
      ·rfl
     simp[this]
    | _=>rfl
   ·rfl
 have e:w.setCell ⟨b,k,none⟩ v={ w with heap:=(w.setCell ⟨b,k,none⟩ v).heap }:=rfl;rw[e,g]
theorem eH (h:w.ownsRow base t sz (.slice a n c) n xs)(k:xs[j]? = some u):∃ g,a=some ⟨g,0,none⟩/\n<=c/\Cl w g j u:=by
 obtain⟨z,⟨l,v⟩|⟨g,cap,cur,l,y,i,hc,_,o,p⟩⟩:=h
 ·cases l
  have:=(fQ.1 k).1;omega
 ·cases l
  have m:=(fQ.1 k).1;rw[<-p,oG (by omega)] at k;refine⟨g,rfl,hc,?_,xP i,(mY.1 i).1⟩;simpa [World.cell?,i] using k
theorem efZ (h:w.ownsRow base t 1 (.slice (some ⟨g,0,none⟩) n c) n xs)(hi:i<n)(u:Value):(w.setCell ⟨g,i,none⟩ u).ownsRow base t 1 (.slice (some ⟨g,0,none⟩) n c) n (xs.set i u):=by
 obtain⟨o,⟨l,z⟩|⟨y,cap,cur,l,m,a,hc,p,k,v⟩⟩:=h
 ·cases l
 ·cases l
  refine⟨by rw[mK];exact o,.inr ⟨g,c,cur.setIfInBounds i u,rfl,m,?_,hc,p,by simpa using k,?_⟩⟩
  ·unfold World.setCell
   simp only[Option.isSome_none,Bool.false_eq_true,gK];rw[Array.getElem?_modify,jQ rfl,a];rfl
  ·rw[<-v,Array.toList_setIfInBounds]
   apply lO;intro j;simp only[vN,List.getElem?_set,lU];by_cases c1:j<n*1
   ·simp only[c1,uA]
    by_cases c2:i=j
    ·subst c2
     have e1:i<cur.toList.length:=by rw[rL];omega
     rw[jQ rfl,jQ rfl,jQ e1,jQ (by omega)]
    ·simp[c2]
   ·simp only[c1,gK]
    by_cases c2:i=j
    ·omega
    ·simp[c2]
theorem CpR.setR {rv:Value}{l:List aQ}(h:CpR w cv rv l rs g cv' (.slice (some ⟨rb,0,none⟩) n c) W)(k:rs.length=n)(hi:i<n)(u:Value):CpR w cv rv l (rs.set i u) g cv' (.slice (some ⟨rb,0,none⟩) n c) (W.setCell ⟨rb,i,none⟩ u):=by
 subst k;have j:=h.d2 rb rfl;have m:=tX h.r (g:=rb) rfl;have a:W.grownBy (W.setCell ⟨rb,i,none⟩ u) (some rb):=aX (wX _ _) _ _;refine⟨⟨bs h.s.b (by simp;omega) _,h.s.e.gb a (by simp;omega),h.s.r.gb a (by simp;omega),by simpa [World.setCell] using h.s.s⟩,h.g2,h.t.gb a (by simpa using fun e=>j e.symm),sZ h.c a (fun x hx e=>(h.d x hx).2 (by simpa [Value.ownBlock] using e)),?_,h.d,h.d2⟩;rw[mK];exact efZ h.r hi u
theorem efJ {l:List aQ}{us:List Rw}(z:W.ownsRow (w.heap.size+2) 108 2 (.slice ca l.length cc) l.length (lF l))(a:W.ownsRow (w.heap.size+2) 35 1 (.slice ra m rc) us.length (us.map (·.1)))(V:us.length=m)(hl:1<=l.length/\l.length<=6)(hn:us.length<=4096)(I:∀ u∈us,u.2.length=l.length)(F:∀ c∈l,c.1.size<=32)(P:∀ rb,ra=some ⟨rb,0,none⟩->vI W w.heap.size rb us)(hB:W.heap.size=n) :
  lD W w.heap.size n (.slice ca l.length cc) (.slice ra m rc) l (rr us):=by
 subst hB V;obtain⟨c0,B⟩:∃ c0,l[0]? = some c0:=⟨_,nZ (by omega)⟩;obtain⟨M,rfl,y,U⟩:=eH z (vR B).1;have C:=tX z (g:=M) rfl;refine deJ ⟨_,cc,rfl,y,by omega,fun x I=>by have:=F x I;omega,fun _=>⟨M,0,rfl,C.2,fun i x hi=>?_⟩⟩ ?_ ?_ ?_
 ·obtain⟨h,A⟩:=vR hi
  obtain⟨R,e1,_,L⟩:=eH z h;obtain⟨g2,e2,_,X⟩:=eH z A;cases e1;cases e2;rw[vX];exact⟨L.c,X.c⟩
 ·refine⟨ra,rc,rfl,?_,by omega,fun u hu=>?_,fun hne=>?_⟩
  ·rcases a.2 with⟨v,S⟩|⟨Q,cap,cur,v,_,_,hc,_⟩
   ·simp only[yZ] at v;omega
   ·simp only[yZ] at v;omega
  ·have G:∃ rb,ra=some ⟨rb,0,none⟩:=by
    obtain⟨k,D⟩:=List.getElem?_of_mem hu;obtain⟨rb,h,_⟩:=eH a (j:=k) (u:=u.1) (by simp[D]);exact⟨rb,h⟩
   obtain⟨rb,p⟩:=G;obtain⟨gb,c,h,A,N,Y,O⟩:=P rb p u hu;have Z:=I u hu;obtain⟨x0,J⟩:∃ x0,u.2[0]? = some x0:=⟨_,nZ (by omega)⟩;have T:=(O 0 x0 J).lt;exact⟨some ⟨gb,0,none⟩,c,h,A,by omega,fun _=>⟨gb,0,rfl,T,by omega,fun i x hi=>by rw[vX];exact(O i x hi).c⟩⟩
  ·obtain⟨u0,H⟩:∃ u0,us[0]? = some u0:=⟨_,nZ (by cases us;exact absurd rfl hne;simp)⟩
   obtain⟨rb,rfl,_,E⟩:=eH a (j:=0) (u:=u0.1) (by simp[H]);refine⟨rb,0,rfl,E.lt,fun i t hi=>?_⟩;obtain⟨R,e1,_,L⟩:=eH a (j:=i) (u:=t.1) (by simp[hi]);cases e1;rw[vX];exact L.c
 ·intro b o n c e
  cases e;omega
 ·refine⟨fun b o n c e=>?_,fun u hu b o n c e=>?_⟩
  ·cases e
   have:=tX a (g:=b) (by
    rcases a.2 with⟨v,S⟩|⟨Q,cap,cur,v,_⟩
    ·cases v
    ·cases v;rfl)
   omega
  ·obtain⟨k,D⟩:=List.getElem?_of_mem hu
   obtain⟨rb,p,_⟩:=eH a (j:=k) (u:=u.1) (by simp[D]);obtain⟨gb,c2,h,_,N,_⟩:=P rb p u hu;rw[h] at e;cases e;exact N
theorem egQ {rv:Value}{l:List aQ}(h:CpR w cv rv l rs g cv' rv' W)(j:rv'.ownBlock=some rb):(W.setCell ⟨rb,i,none⟩ u).cell? ⟨g,1,none⟩=some rv':=by
 have a:=h.d2 rb j;exact(h.t.gb (aX (wX _ (some rb)) _ _) (by simpa using fun e=>a e.symm)).c1
theorem egX (B:Nat)(cv rv:Value)(l:List aQ)(rs:List Rw)(w:World)(hB:B<=w.heap.size)(hp:kQ w B cv l)(hq:nQ w B rv rs)(c9:fV l (rr rs)=0) :
  Calls prog 19 #[.agg #[cv,rv]] w fun e w'=>∃ cv' rv',e=.returned (.agg #[cv',rv'])/\xQ w w'/\lD w' w.heap.size w'.heap.size cv' rv' l (rr rs):=by
 obtain⟨bp,bw,bx⟩:=xM c9;obtain⟨cw,cy,_,_,S⟩:=nI bp;rw[sA] at bw;have HP:=qQ hp;have HQ:=qQ hq;have b6:=qQ bx;have b5:=qQ (efQ S);obtain⟨P,J,rfl,_⟩:=hp.slice;obtain⟨U,O,rfl,_⟩:=hq.slice;obtain⟨W,Z⟩:∃ W,(w.alloc (.cells #[.slice P l.length J,.slice U rs.length O] 25)).alloc (.cells #[zs,zs] 25)=W:=⟨_,rfl⟩;have hS:CpS w (.slice P l.length J) (.slice U rs.length O) W:=Z▸⟨bal (ba _ _) _,(TwoB.new w _ _ 25 _ rfl).below (ba _ _),TwoB.new _ _ _ 25 _ (by simp),by simp⟩
 have kc:∀ W,CpS w (.slice P l.length J) (.slice U rs.length O) W->Calls prog 40 #[.slice P l.length J] W fun e w'=>∃ a1 c1,e=.returned (.slice a1 l.length c1)/\w'.ownsRow W.heap.size 108 2 (.slice a1 l.length c1) l.length (lF l)/\xQ W w'/\CpS w (.slice P l.length J) (.slice U rs.length O) w':=fun W Z=>by
  have bv:=HP.out.at hB Z.b;refine(edZ P l.length J (lF l) W (buZ l) (by omega) ?_ ?_ ?_).mono ?_
  ·rintro rfl
   obtain⟨b,o,_,_,h,_⟩:=bv.get (bQ hB Z.b.size) (uQ _ _) (i:=0) (by omega);cases h
  ·rintro ad rfl j u hj
   obtain⟨i,c,hc,h⟩:=eeX hj;obtain⟨b,o,nm,sz,L,y,E,h4,h5,_⟩:=bv.get (bQ hB Z.b.size) (uQ _ _) (i:=i) (fQ.1 hc).1;rw[hc] at E;cases E;cases L;rw[bJ];refine⟨lQ y (bQ hB Z.b.size),?_⟩;rcases h with⟨rfl,rfl⟩|⟨rfl,rfl⟩
   ·exact h4
   ·rw[<-cU];exact h5
  ·intro u M
   obtain⟨c,_,hc⟩:=gC.1 M;simp at hc;rcases hc with rfl|rfl <;> rfl
  ·rintro e w' ⟨v',rfl,L,y⟩
   obtain⟨a1,c1,rfl⟩:=iY L;exact⟨a1,c1,rfl,L,y,Z.at y⟩
 have kr:∀ W,CpS w (.slice P l.length J) (.slice U rs.length O) W->Calls prog 41 #[.slice U rs.length O] W fun e w'=>∃ a1 c1,e=.returned (.slice a1 rs.length c1)/\w'.ownsRow W.heap.size 35 1 (.slice a1 rs.length c1) rs.length (rs.map (·.1))/\xQ W w'/\CpS w (.slice P l.length J) (.slice U rs.length O) w':=fun W Z=>by
  have aw:=HQ.out.at hB Z.b;refine(edJ U rs.length O (rs.map (·.1)) W (by simp) (by omega) ?_ ?_ ?_).mono ?_
  ·rintro rfl
   refine Classical.byContradiction fun br=>?_;obtain⟨b,o,_,_,_,h,_⟩:=aw.get (bQ hB Z.b.size) (uQ _ _) (i:=0) (by omega);cases h
  ·rintro ad rfl j u hj
   have d4:j<rs.length:=by have:=(fQ.1 hj).1;simpa using this
   obtain⟨b,o,sa,sc,a,L,y,E,h4,_⟩:=aw.get (bQ hB Z.b.size) (uQ _ _) d4;rw[mV,E] at hj;cases hj;cases L;rw[bJ];exact⟨lQ y (bQ hB Z.b.size),h4⟩
  ·intro u M
   obtain⟨t,ht,rfl⟩:=iJ.1 M;obtain⟨_,_,_,_,_,h4,_⟩:=aw;obtain⟨a2,c2,hv,_⟩:=h4 t ht;rw[hv];rfl
  ·rintro e w' ⟨v',rfl,L,y⟩
   obtain⟨a1,c1,rfl⟩:=iY L;exact⟨a1,c1,rfl,L,y,Z.at y⟩
 have H1:Hid (CpS w (.slice P l.length J) (.slice U rs.length O) W.drew):=hS.at (uQ _ _).drew;have H2:Hid (∀ o,CpS w (.slice P l.length J) (.slice U rs.length O) (W.alloc o).drew):=fun o=>(hS.at (ba _ _)).at (uQ _ _).drew;obtain⟨e0,e1⟩:=hS.cells;have bj:w.heap.size+2<=W.heap.size:=hS.s;have a7:=qQ bj;clear hp hq bx hS c9 bp;go_enter func19,ntmps19;go_wp2;clear Z
 go_cut [3] (fun pv wx=>∃ g cv' rv',pv=.pointer (some ⟨g,0,none⟩)/\CpR w (.slice P l.length J) (.slice U rs.length O) l (rs.map (·.1)) g cv' rv' wx)
 case first =>
  go_region_held3 (fun w'=>w'.cell? ⟨w.heap.size,0,none⟩=some (.slice P l.length J)/\w'.cell? ⟨w.heap.size,1,none⟩=some (.slice U rs.length O))
   (first|(refine CpS.cells (cv:=.slice P l.length J) (rv:=.slice U rs.length O) ?_;first|with_reducible exact H1.out|with_reducible exact H2.out _|with_reducible exact m|with_reducible exact m.at (ba _ _)|with_reducible exact p|with_reducible exact p.at (ba _ _)|with_reducible exact fB m p.s _ _|with_reducible exact fB m a7.out _ _|with_reducible exact fB (m.at (ba _ _)) m.s _ _)|(simp[go_sem, *];done))
   (first
    | (go_at_call 40;refine(kc _ ?_).mono ?_;(with_reducible exact H2.out _);rintro x3 w3 ⟨a3,c3,rfl,Y,aa,p⟩;have bh:=eeZ aa;obtain⟨s0,s1⟩:=p.cells)
    | (go_at_call 40;refine(kc _ ?_).mono ?_;(with_reducible exact H1.out);rintro x3 w3 ⟨a3,c3,rfl,Y,aa,p⟩;obtain⟨s0,s1⟩:=p.cells)
    | (have au:=bh;clear au;go_at_call 41;refine(kr _ ?_).mono ?_;(with_reducible exact p);rintro x4 w4 ⟨a4,c4,rfl,C,D,m⟩;have a9:=bh.below D;obtain⟨s2,s3⟩:=m.cells;obtain⟨t0,t1,df,dg,da⟩:=id a9)
    | (go_at_call 41;refine(kr _ ?_).mono ?_;(with_reducible exact p.at (ba _ _));rintro x4 w4 ⟨a4,c4,rfl,C,D,m⟩;have a9:=eeJ D;obtain⟨s2,s3⟩:=m.cells;obtain⟨t0,t1,df,dg,da⟩:=id a9)
    | (go_at_call 41;refine(kr _ ?_).mono ?_;(with_reducible exact p);rintro x4 w4 ⟨a4,c4,rfl,C,D,m⟩;obtain⟨s2,s3⟩:=m.cells))
  ·have af:=aa.size
   have c6:=D.size;have z3:W.heap.size<=w3.heap.size:=af;go_wp2;go_meet;refine⟨w4.heap.size,_,_,rfl,m.at (ba _ _),m.s,TwoB.new _ _ _ 25 _ rfl,sZ (jD (sZ Y (cZ D) (by simp)) (by exact a7.out)) (cZ (ba _ _)) (by simp),?_,fun x hx=>?_,fun x hx=>?_⟩
   ·rw[pA];exact sZ (jD C p.s) (cZ (ba _ _)) (by simp)
   ·have L:=tX Y hx
    refine⟨by omega,fun e=>?_⟩;have y:=tX C e;omega
   ·have y:=tX C hx
    omega
  ·have af:=aa.size
   have c6:=D.size;have z3:W.heap.size<=w3.heap.size:=af;go_wp2;go_meet;refine⟨w3.heap.size,_,_,rfl,buJ m p.s a9 (jD (sZ Y (cZ (bt (ba _ _) D)) (by simp)) a7.out) ?_ (fun x hx=>?_) (fun x hx=>?_)⟩
   ·rw[pA];exact jD C (by have:=p.s;simp;omega)
   ·have L:=tX Y hx
    refine⟨by omega,fun e=>?_⟩;have y:=tX C e;simp at y;omega
   ·have y:=tX C hx
    simp at y;omega
  ·have af:=aa.size
   have c6:=D.size;have z3:W.heap.size+1<=w3.heap.size:=by simpa using af
   go_wp2;go_meet;refine⟨W.heap.size,_,_,rfl,buJ m a7.out a9 (jD (sZ Y (cZ D) (by simp)) (by have:=a7.out;simp;omega)) ?_ (fun x hx=>?_) (fun x hx=>?_)⟩
   ·rw[pA];exact jD C p.s
   ·have L:=tX Y hx
    simp at L;refine⟨by omega,fun e=>?_⟩;have y:=tX C e;omega
   ·have y:=tX C hx
    omega
 case rest =>
  obtain⟨g,cv',rv',rfl,hR⟩:=hcut;obtain⟨F,A,rfl⟩:=iY hR.c;obtain⟨G,z,bz⟩:=iY hR.r;rw[pA] at bz;subst bz;have HR:=qQ hR;obtain⟨e0,e1⟩:=hR.s.cells;clear kc kr H1 H2 hR a7 bj;go_wp2
  go_loopw [18] (fun t wr=>∃ (i:Nat),t=int i64 (i:Int)/\i<=l.length/\Hid (CpR w (.slice P l.length J) (.slice U rs.length O) l (rs.map (·.1)) g (.slice F l.length A) (.slice G rs.length z) wr)) (fun t _=>l.length - (intOf t).toNat)
  case atStart=>exact⟨0,rfl,dQ _,HR⟩
  case round =>
   obtain⟨i,rfl,hi,a6⟩:=hrel;by_cases L:i<l.length
   ·obtain⟨b,o,nm,sz,rfl,hb,T,d1,d2,_⟩:=(HP.out.at hB a6.out.s.b).get (bQ hB a6.out.s.b.size) (uQ _ _) L
    obtain⟨X,hX⟩:∃ X,wr.alloc (.cells #[.string nm,int i64 sz] 108)=X:=⟨_,rfl⟩;have ah:=a6.out.at (hX▸ba wr _:xQ wr X);have TX:TwoB X wr.heap.size (.string nm) (int i64 sz):=hX▸TwoB.new _ _ _ 108 _ rfl;have d5:nm.size<=281474976710656:=by have:=b5.out _ (qX T);simp only at this;omega
    obtain⟨gc,d3,bm,S⟩:=eH ah.c (vR T).1;subst d3
    have kS:Calls prog 42 #[.string nm] X.drew fun e w'=>e=.returned (.string nm)/\CpR w (.slice (some ⟨b,o,none⟩) l.length J) (.slice U rs.length O) l (rs.map (·.1)) g (.slice (some ⟨gc,0,none⟩) l.length A) (.slice G rs.length z) w'/\TwoB w' wr.heap.size (.string nm) (int i64 sz)/\Cl w' gc (i*2) (.string nm):=by
     refine(avX nm X.drew d5).mono ?_;rintro e w' ⟨y,E⟩;exact⟨y,(ah.at (uQ _ _).drew).at E,(TX.below (uQ _ _).drew).below E,(Cl.drew' S).at E⟩
    have t0:=ah.t.c0;have n0:=TX.c0;have z1:(i:Int)<(l.length:Int):=by omega
    have b8:Hid (∀ w',Cl w' gc (i*2) (.string nm)->w'.setCell ⟨gc,i*2,none⟩ (.string nm)=w'):=fun w' h=>efX h.c;clear T ah TX S a6 HP;go_wp2_with fail;clear hX
    go_region_held3 (fun w'=>w'.cell? ⟨g,0,none⟩=some (.slice (some ⟨gc,0,none⟩) l.length A)/\w'.cell? ⟨wr.heap.size,0,none⟩=some (.string nm))
     (first|assumption|(simp[go_sem, *];done))
     ((go_at_call 42;refine kS.mono ?_;rintro x w5 ⟨rfl,R,bi,Q⟩;have y0:=R.t.c0;have y1:=bi.c0;have y2:=Q.c;have y3:=Q.f;have y4:=b8.out _ Q))
    have cm:=qQ R;clear kS R bi Q y0 y1 y2 y3 y4 b8;go_wp2
    go_roundw
    ·exact⟨i+1,by go_num,L,cm⟩
    ·simp[intOf];omega
   ·obtain rfl:i=l.length:=by omega
    obtain⟨_,q1⟩:=a6.out.s.cells;have dr:(rs.map (·.1)).length=rs.length:=by simp
    go_wp2
    go_loopw [35] (fun t wr=>∃ (j:Nat) (H:List Rw),t=int i64 (j:Int)/\j<=rs.length/\Hid (H.length=j/\rr H=(rr rs).take j/\CpR w (.slice P l.length J) (.slice U rs.length O) l (H.map (·.1)++(rs.map (·.1)).drop j) g (.slice F l.length A) (.slice G rs.length z) wr)/\Hid (∀ N,G = some ⟨N,0,none⟩->vI wr w.heap.size N H)) (fun t _=>rs.length - (intOf t).toNat)
    case atStart=>exact⟨0,[],rfl,dQ _,⟨rfl,by simp[rr],by simpa using a6.out⟩,fun N _ u M=>by cases M⟩
    case round =>
     obtain⟨j,H,rfl,hj,I,HU⟩:=hrel;by_cases y:j<rs.length
     ·obtain⟨b,o,sa,sc,a,rfl,hb,T,d1,hI⟩:=(HQ.out.at hB I.out.2.2.s.b).get (bQ hB I.out.2.2.s.b.size) (uQ _ _) y
      have cd:a.length=l.length:=by
       have E:=b6.out a (by rw[rr];exact iJ.2 ⟨_,qX T,rfl⟩);exact E.len
      have c8:(H.map (·.1)++(rs.map (·.1)).drop j)[j]? = some (.slice sa a.length sc):=by
       rw[mH (by simp[I.out.1]),pA,I.out.1,kK,mV,iI,fI,T];rfl
      have aq:(H.map (·.1)++(rs.map (·.1)).drop j).length=rs.length:=by simp[I.out.1];omega
      have ae:=I.out.2.2.r;rw[aq] at ae;obtain⟨N,ai,bm,S⟩:=eH ae c8;subst ai;have c7:(a.map (Value.int .i64)).length=a.length*1:=by simp
      have kI:Calls prog 43 #[.slice sa a.length sc] wr.drew fun e w'=>∃ gb c,e=.returned (.slice (some ⟨gb,0,none⟩) a.length c)/\a.length<=c/\wr.heap.size<=gb/\(∀ k x,a[k]? = some x->Cl w' gb k (int i64 x))/\CpR w (.slice P l.length J) (.slice (some ⟨b,o,none⟩) rs.length O) l (H.map (·.1)++(rs.map (·.1)).drop j) g (.slice F l.length A) (.slice (some ⟨N,0,none⟩) rs.length z) w'/\Cl w' N j (.slice sa a.length sc)/\vI w' w.heap.size N H:=by
       obtain⟨a2,c2,db,e6,eb,dd⟩:=hI.at (show B<=wr.heap.size from bQ hB I.out.2.2.s.b.size) (uQ _ _).drew;cases db;have br:a≠[]:=by rintro rfl;simp at cd;omega
       obtain⟨bb,oo,rfl,cu,_,ao⟩:=dd br;refine(eeQ (some ⟨bb,oo,none⟩) a.length sc (a.map (Value.int .i64)) wr.drew c7 (by omega) (fun h=>by cases h) ?_ ?_).mono ?_
       ·rintro ad h k u hk
        cases h;rw[mV] at hk;cases hxk:a[k]? with
        | none=>rw[hxk] at hk;cases hk
        | some x =>
         rw[hxk] at hk;cases hk;rw[bJ];exact⟨lQ cu (bQ hB I.out.2.2.s.b.size),ao k x hxk⟩
       ·intro u M
        obtain⟨x,_,rfl⟩:=iJ.1 M;rfl
       ·rintro e w' ⟨v',rfl,E,h4⟩
        obtain⟨a3,c3,rfl⟩:=iY E;obtain⟨x0,dc⟩:∃ x0,a[0]? = some x0:=⟨_,nZ (by omega)⟩;obtain⟨gb,rfl,cz,_⟩:=eH E (j:=0) (u:=int i64 x0) (by simp[dc]);have h5:=tX E (g:=gb) rfl;refine⟨gb,c3,rfl,cz,h5.1,fun k x hk=>?_,(I.out.2.2.at (uQ _ _).drew).at h4,(Cl.drew' S).at h4,((HU.out N rfl).at (uQ _ _).drew).at h4⟩;obtain⟨e4,he,_,bn⟩:=eH E (j:=k) (u:=int i64 x) (by simp[hk]);cases he;exact bn
      have t1:=I.out.2.2.t.c1;have dq:=S.lt;have an:Hid (rs[j]? = some (.slice sa a.length sc,a)/\(H.map (·.1)++(rs.map (·.1)).drop j).length=rs.length):=⟨T,aq⟩;have z1:(j:Int)<(rs.length:Int):=by omega
      clear T hI c8 aq ae c7 cd;go_wp2_with fail
      go_region_held3 (fun w'=>w'.cell? ⟨g,1,none⟩=some (.slice (some ⟨N,0,none⟩) rs.length z))
       (first|assumption|(simp[go_sem, *];done)|(exact bk.out))
       ((go_at_call 43;refine kI.mono ?_;rintro x w5 ⟨gb,c5,rfl,cx,ea,cb,R,Q,bf⟩;have y0:=R.t.c1;have y2:=Q.c;have y3:=Q.f;have bk:Hid ((w5.setCell ⟨N,j,none⟩ (.slice (some ⟨gb,0,none⟩) a.length c5)).cell? ⟨g,1,none⟩=some (.slice (some ⟨N,0,none⟩) rs.length z)):=egQ R rfl))
      have al:(H.map (·.1)++(rs.map (·.1)).drop j).set j (.slice (some ⟨gb,0,none⟩) a.length c5)=(H++[(Value.slice (some ⟨gb,0,none⟩) a.length c5,a)]).map (·.1)++(rs.map (·.1)).drop (j+1):=by
       rw[xS _ _ (by simp[I.out.1]),pA,I.out.1,iI]
       have hd:(rs.map (·.1)).drop j=.slice sa a.length sc::(rs.map (·.1)).drop (j+1):=by
        rw[eV (by simpa using y)];congr 1;have E:(rs.map (·.1))[j]? = some (.slice sa a.length sc):=by rw[mV,an.out.1];rfl
        rw[nZ (by simpa using y)] at E;exact Option.some.inj E
       rw[hd];simp
      have cn:Hid ((H++[(Value.slice (some ⟨gb,0,none⟩) a.length c5,a)]).length=j+1/\rr (H++[(Value.slice (some ⟨gb,0,none⟩) a.length c5,a)])=(rr rs).take (j+1)/\CpR w (.slice P l.length J) (.slice (some ⟨b,o,none⟩) rs.length O) l ((H++[(Value.slice (some ⟨gb,0,none⟩) a.length c5,a)]).map (·.1)++(rs.map (·.1)).drop (j+1)) g (.slice F l.length A) (.slice (some ⟨N,0,none⟩) rs.length z) (w5.setCell ⟨N,j,none⟩ (.slice (some ⟨gb,0,none⟩) a.length c5))):=by
       refine⟨by simp[I.out.1],?_,?_⟩
       ·rw[rX,oI an.out.1,<-I.out.2.1]
        simp[rr]
       ·rw[<-al]
        exact R.setR an.out.2 y _
      have cj:Hid (∀ ay,some (⟨N,0,none⟩:Addr)=some ⟨ay,0,none⟩->vI (w5.setCell ⟨N,j,none⟩ (.slice (some ⟨gb,0,none⟩) a.length c5)) w.heap.size ay (H++[(Value.slice (some ⟨gb,0,none⟩) a.length c5,a)])):=by
       rintro ay E;cases E;intro u M;rcases aV.1 M with M|M
       ·exact bf.set _ u M
       ·simp at M
        subst M;have ef:=I.out.2.2.s.b.size;exact⟨gb,c5,rfl,cx,by omega,by omega,fun k x hk=>(cb k x hk).oth (.inl (by omega)) _⟩
      clear kI R Q bf cb y0 y2 y3 bk al S;go_wp2
      go_roundw
      ·exact⟨j+1,H++[(.slice (some ⟨gb,0,none⟩) a.length c5,a)],by go_num,y,cn,cj⟩
      ·simp[intOf];omega
     ·obtain rfl:j=rs.length:=by omega
      have aj:=I.out.1;have ax:=I.out.2.1;have a8:=I.out.2.2;rw[gJ (by rw[sA];exact vQ _)] at ax;rw[nG (by simp),bG] at a8;rw[<-aj] at a8;have V:=qQ a8;obtain⟨g0,g1,_,_,_⟩:=id a8.t;obtain⟨e0,e1,f0,f1,e9⟩:=id a8.s.r;have HE:Hid (rr H=rr rs/\H.length=rs.length):=⟨ax,aj⟩;rw[aj] at g1;clear aj ax a8;go_wp2;have hG:wr.grownBy ((wr.setCell ⟨w.heap.size+1,0,none⟩ (.slice F l.length A)).setCell ⟨w.heap.size+1,1,none⟩ (.slice G rs.length z)) (some (w.heap.size+1)):=aX (aX (wX _ (some (w.heap.size+1))) _ _) _ _;have ct:xQ w ((wr.setCell ⟨w.heap.size+1,0,none⟩ (.slice F l.length A)).setCell ⟨w.heap.size+1,1,none⟩ (.slice G rs.length z)):=bs (bs V.out.s.b (by simp) _) (by simp) _;have hT:TwoB ((wr.setCell ⟨w.heap.size+1,0,none⟩ (.slice F l.length A)).setCell ⟨w.heap.size+1,1,none⟩ (.slice G rs.length z)) (w.heap.size+1) (.slice F l.length A) (.slice G rs.length z):=V.out.s.r.put _ _;refine eQ (v:=.agg #[.slice F l.length A,.slice G rs.length z]) ?_ rfl ⟨_,_,rfl,ct,?_⟩
      ·simp[results,results19,go_sem,hT.c0,hT.c1]
      ·have bq:∀ x,some x=some (w.heap.size+1)->w.heap.size+2<=x->False:=fun x L y=>by simp at L;omega
       rw[<-HE.out.1];refine efJ (sZ V.out.c hG (fun x hx e=>bq x e.symm (tX V.out.c hx).1)) (sZ (by have h:=V.out.r;rw[pA,HE.out.2] at h;rw[HE.out.2];exact h) hG (fun x hx e=>bq x e.symm ?_)) HE.out.2 ⟨cw,cy⟩ (by rw[HE.out.2];exact bw) (fun u M=>?_) b5.out (fun N ai u M=>?_) rfl
       ·have h:=V.out.r
        rw[HE.out.2] at h;exact(tX h hx).1
       ·exact(b6.out u.2 (by rw[<-HE.out.1];exact iJ.2 ⟨u,M,rfl⟩)).len
       ·obtain⟨gb,c,k1,k2,k3,k4,k5⟩:=HU.out N ai u M
        have h:=V.out.r;rw[HE.out.2] at h;have k6:=tX h (g:=N) (by rw[ai];rfl);exact⟨gb,c,k1,k2,k3,k4,fun k x hk=>((k5 k x hk).oth (.inl (by omega)) _).oth (.inl (by omega)) _⟩
theorem qJ.lt {bd:Nat}{l:List aQ}{done:List En}(i:qJ w M bh bd l ts done):qJ w (fun k=>M k/\k<w.heap.size) bh bd l ts done:=by
 obtain⟨cv,rv,a,g,n,v,D,h,B,N,q⟩:=i;refine⟨cv,rv,a,g,n,v,D,h,B,N,q.hc,q.bo,q.tb,q.nn,q.hB,q.ap,fun k hk=>⟨q.mm k hk,?_⟩⟩;rcases hk with rfl|d|d
 ·exact q.hc.c0.lt
 ·exact(q.nn k d).2.1
 ·have:=q.hB.2;omega
def bvQ (bd:Nat) (l:List aQ) (ts:List (List Int)) (dn:List En) (er:Int) (w:World):Ending->World->Prop:=fun e w' =>
 xQ w w'/\((er≠0/\e=.returned (.tuple #[.pointer none,int i64 er]))\/(er=0/\∃ bh,e=.returned (.tuple #[.pointer (some ⟨bh,0,none⟩),int i64 0])/\qJ w' (fun k=>w.heap.size<=k/\k<w'.heap.size) bh bd l ts dn))
theorem egZ (B bd U:Nat)(cv rv:Value)(l:List aQ)(rs:List Rw)(a:Option Addr)(c:Nat)(disk:List Int)(left:Int)(w:World)(hB:B<=w.heap.size)(L:kQ w B cv l)(M:nQ w B rv rs)(hd:DskM w bd U a c disk left)(a9:U<w.heap.size)(C:rV disk)(er:Int)(hr:fV l (rr rs)=er) :
  Calls prog 9 #[.agg #[cv,rv],.iface 46 (.pointer (some ⟨bd,0,none⟩))] w (bvQ bd l (rr rs) (wY disk) er w):=by
 have HP:=qQ L;have HQ:=qQ M;have HD:=qQ hd;have P:=qQ C;have HR:=qQ hr;have a8:bd<w.heap.size:=hd.c0.lt;obtain⟨G,H,rfl,_⟩:=L.slice;obtain⟨N,O,rfl,_⟩:=M.slice;obtain⟨W,Z⟩:∃ W,w.alloc (.cells #[.slice G l.length H,.slice N rs.length O] 25)=W:=⟨_,rfl⟩;have i:Hid (xQ w W):=Z▸ba _ _;have T:TwoB W w.heap.size (.slice G l.length H) (.slice N rs.length O):=Z▸TwoB.new _ _ _ 25 _ rfl;have kw:=K.rK B (.slice G l.length H) (.slice N rs.length O) l rs W (bQ hB i.out.size) (L.at hB i.out) (M.at hB i.out) er hr;obtain⟨t0,t1,_,_,_⟩:=id T;have HT:=qQ T;clear L M hd C hr T;go_enter func9,ntmps9;go_wp2_with fail;clear Z;refine kw.mono ?_;rintro x w1 ⟨rfl,E⟩;have A:xQ w w1:=bt i.out E;by_cases I:er=0
 ·subst I
  obtain⟨t0,t1,_,_,_⟩:=HT.out.below E;have kc:=egX B (.slice G l.length H) (.slice N rs.length O) l rs w1 (bQ hB A.size) (HP.out.at hB A) (HQ.out.at hB A) HR.out;have Q:=qQ A;clear kw;go_wp2_with fail;refine kc.mono ?_;rintro x z ⟨V,ah,rfl,F,p⟩;have ae:=F.size;have kn:=fT (fun k=>z.heap.size<=k) z (fun k hk=>hk);have S:=qQ p
  obtain⟨⟨cx,cy,rfl⟩,⟨rx,ry,rz,rfl⟩⟩:(∃ a c,V = .slice a l.length c)/\(∃ a n c,ah = .slice a n c):=by
   obtain⟨bi,_,h⟩:=p;obtain⟨⟨a,c,h1,_⟩,⟨a2,c2,h2,_⟩⟩:=h z ⟨vQ _,fun _ _ _=>rfl⟩;exact⟨⟨a,c,h1⟩,⟨a2,_,c2,h2⟩⟩
  clear kc p;go_wp2_with fail;refine kn.mono ?_;rintro x g ⟨rfl,y,af,D⟩;have R:=qQ D;have B3:xQ w g:=bt (bt Q.out F) y;have m:=y.size;obtain⟨X,J⟩:∃ X,g.alloc (.cells #[.slice cx l.length cy,.slice rx ry rz,.pointer (some ⟨z.heap.size+1,0,none⟩),.iface 46 (.pointer (some ⟨bd,0,none⟩)),int i64 0,.bool false] 84)=X:=⟨_,rfl⟩;have j:xQ g X:=J▸ba _ _;have a6:X.heap.size=g.heap.size+1:=by rw[<-J];simp
  have hC:HouC X g.heap.size bd (.slice cx l.length cy) (.slice rx ry rz) (z.heap.size+1) ((([]:List En).length:Nat):Int) false:=by
   rw[<-J];exact⟨Cl.new _ 84 0 _ rfl rfl,Cl.new _ 84 1 _ rfl rfl,Cl.new _ 84 2 _ rfl rfl,Cl.new _ 84 3 _ rfl rfl,Cl.new _ 84 4 _ rfl rfl,Cl.new _ 84 5 _ rfl rfl⟩
  have hH:qJ X (fun k=>w.heap.size<=k) g.heap.size bd l (rr rs) []:=by
   refine⟨_,_,_,_,0,_,_,w1.heap.size,z.heap.size,(fun k=>z.heap.size<=k/\k<g.heap.size),hC,((R.out.mono (fun k hk h=>⟨h,hk⟩)).keep j),(S.out.kp (K:=fun _=>False) (xX y) (vQ _) (fun _ _ _ h=>h)).kp (K:=fun _=>False) (xX j) m (fun _ _ _ h=>h),fun k hk=>⟨hk.1,by omega,by omega⟩,⟨ae,by omega⟩,.inr m,fun k hk=>?_⟩;rcases hk with rfl|d|d <;> omega
  have o:=qQ (bt B3 j);have kr:=dfZ w.heap.size g.heap.size bd U a c l (rr rs) disk left X hH (HD.out.at o.out) ⟨a8,a9⟩ o.out.size P.out;clear kn D B3 j hC hH a6 af;go_wp2_with fail;clear J;refine kr.mono ?_;rintro x w4 ⟨rfl,a7,Y⟩;have HF:Hid (bvQ bd l (rr rs) (wY disk) 0 w (.returned (.tuple #[.pointer (some ⟨g.heap.size,0,none⟩),int i64 0])) w4):=⟨o.out.trans a7,.inr ⟨rfl,_,rfl,Y.lt⟩⟩;clear kr;go_wp2;exact eQ (v:=.tuple #[.pointer (some ⟨g.heap.size,0,none⟩),int i64 0]) (by simp[results,results9,go_sem]) rfl HF.out
 ·have bc:(er == 0)=false:=by simpa using I
  have bf:(er != 0)=true:=by simpa using I
  clear kw;go_wp2;exact eQ (v:=.tuple #[.pointer none,int i64 er]) (by simp[results,results9,go_sem]) rfl ⟨A,.inl ⟨I,rfl⟩⟩
theorem egJ (M:Nat->Prop)(bh bd i:Nat)(a:Option Addr)(c:Nat)(l:List aQ)(ts:List (List Int))(disk:List Int)(left:Int)(done:List En)(nm:ByteArray)(u d:Int)(w:World)(z:qJ w M bh bd l ts done)(y:DskM w bd i a c disk left)(C:¬ M bd/\¬ M i)(E:i<w.heap.size)(F:-9223372036854775808<=left/\left<=9223372036854775807)(H:nm.size<=9223372036854775807)(s':HSt)(er:Int)(G:jZ ⟨disk,left,true,false,done⟩ (1,nm,0,u,d)=(s',er)) :
  Calls prog 10 #[.pointer (some ⟨bh,0,none⟩),.string nm,.agg #[int i64 u,int i64 d]] w (vH M bh bd i a c l ts s' er w):=by
 have g:xQ w (w.alloc (.cells #[int i64 u,int i64 d] 37)):=ba _ _;have k:=bbJ M bh bd i a c l ts disk left done (1,nm,0,u,d) (w.alloc (.cells #[int i64 u,int i64 d] 37)) (z.kp (K:=fun _=>False) (xX g) (fun _ _ h=>h)) (y.at g) C (by simp;omega) F H (by simp only;omega) rfl s' er G;obtain⟨cv,rv,I,J,n,v,D,h,B,N,q⟩:=z;have L:=(q.hc.at g).c5.c;clear q y;go_enter func10,ntmps10;go_wp2_with fail;refine k.mono ?_;rintro x w' ⟨rfl,j,m,o,p⟩;have A:Hid (vH M bh bd i a c l ts s' er w (.returned (int i64 er)) w'):=⟨rfl,(xX g).trans j,m,fun hb=>(o hb).mono (fun k hk=>hk.imp id (fun hk=>⟨by have:=hk.1;simp at this;omega,hk.2⟩)),p⟩;clear k j m o p;go_wp2;go_ret;exact A.out
theorem ehQ (bh:Nat)(nm:ByteArray)(u d:Int)(w:World)(h:Cl w bh 5 (.bool true)):Calls prog 10 #[.pointer (some ⟨bh,0,none⟩),.string nm,.agg #[int i64 u,int i64 d]] w (iQ w (int i64 9)):=by
 have a:=(h.at (ba w (.cells #[int i64 u,int i64 d] 37))).c;go_enter func10,ntmps10;go_wp2;go_ret;exact⟨rfl,ba _ _⟩
theorem ehX (M:Nat->Prop)(bh bd:Nat)(l:List aQ)(ts:List (List Int))(done:List En)(w:World)(p:qJ w M bh bd l ts done) :
  Calls prog 12 #[.pointer (some ⟨bh,0,none⟩)] w fun e w'=>∃ r,e=.returned (.tuple #[r,int i64 0])/\w'.ownsRow w.heap.size 72 5 r done.length (enc done)/\xQ w w':=by
 obtain⟨cv,rv,j,m,n,v,D,h,B,N,q⟩:=p;have k:=c5Q N j m n v D done w q.bo;have z:=q.hc.c5.c;have y:=q.hc.c2.c;clear q;go_enter func12,ntmps12;go_wp2_with fail;refine k.mono ?_;rintro x w' ⟨r,rfl,g,o⟩;obtain⟨a,c,rfl⟩:=iY g;have i:=qQ g;clear k g;go_wp2;exact eQ (v:=.tuple #[.slice a done.length c,int i64 0]) (by simp[results,results12,go_sem]) rfl ⟨_,rfl,i.out,o⟩
theorem ehZ (bh:Nat)(w:World)(h:Cl w bh 5 (.bool true)):Calls prog 12 #[.pointer (some ⟨bh,0,none⟩)] w fun e w'=>e=.returned (.tuple #[.slice none 0 0,int i64 9])/\w' = w:=by
 have a:=h.c;go_enter func12,ntmps12;go_wp2;exact eQ (v:=.tuple #[.slice none 0 0,int i64 9]) (by simp[results,results12,go_sem]) rfl ⟨rfl,rfl⟩
theorem aeJ {l:List aQ}{q:Qu}(h:iU (prt l q s)=(z,er)):0<=z/\z<=4096:=by
 have k:∀ x:Except Int Int,iU x=(z,er)->(∀ v,x=.ok v->0<=v/\v<=4096)->0<=z/\z<=4096:=by
  intro x m a;cases x with
  | error e=>simp only[iU,cQ] at m;omega
  | ok v=>simp only[iU,cQ] at m;have:=a v rfl;omega
 refine k _ h fun v a=>?_;unfold prt at a;split at a
 ·cases a
 ·rename_i b hb
  split at a
  ·cases a
  ·rename_i i hi
   split at a
   ·cases a
   ·rename_i v' hv'
    split at a
    ·rename_i hc
     cases a;have j:=(nI (gB hb).1).2.2.1;have g:=iD hi
     have:pV l i<=4096:=by
      unfold pV;rw[nZ g];exact(j _ (List.getElem_mem g)).2
     omega
    ·cases a
theorem afQ (hB:B<=B')(q:Qu):∀ {v0 v1 v2 v3 i j:Value},Qm w B q v0 v1 v2 v3 i j->Qm w B' q v0 v1 v2 v3 i j:=by
 induction q with
 | none=>intro v0 v1 v2 v3 i j h;exact h
 | node k c lo hi wh n x y ihx ihy =>
  rintro v0 v1 v2 v3 i j ⟨v,z,l,A,hc,G,a,cap,C,F,E,D⟩;refine⟨v,z,l,A,hc,G.mono hB,a,cap,C,F,E,fun g1 g2=>?_⟩;obtain⟨b,o,ha,H,⟨u0,u1,u2,u3,u4,u5,p,m⟩,l⟩:=D g1 g2;refine⟨b,o,ha,by omega,⟨u0,u1,u2,u3,u4,u5,p,ihx m⟩,fun g=>?_⟩;obtain⟨u0,u1,u2,u3,u4,u5,p,m⟩:=l g;exact⟨u0,u1,u2,u3,u4,u5,p,ihy m⟩
theorem bwX {rv:Value}{l:List aQ}(k:lD w h B cv rv l ts)(hB:B<=w.heap.size):∃ rs,rr rs=ts/\kQ w w.heap.size cv l/\nQ w w.heap.size rv rs:=by
 obtain⟨rs,a,g⟩:=k;obtain⟨i,j⟩:=g w ⟨hB,fun _ _ _=>rfl⟩;exact⟨rs,a,i.mono hB,j.mono hB⟩
abbrev oA (pn:ByteArray) (v0 v1 v2 v3 v4 v5:Value) (u d lo hi:Int) (bv:Value):Value:=.agg #[.string pn,v0,v1,v2,v3,v4,v5,int i64 u,int i64 d,int i64 lo,int i64 hi,bv]
def tZ (pn:ByteArray) (z er lu ld:Int):En:=if er=0 then (3,pn,z,lu,ld) else (2,pn,0,lu,ld)
theorem ejJ (M:Nat->Prop)(bh bd B:Nat)(l:List aQ)(ts:List (List Int))(done:List En)(pn:ByteArray)(v0 v1 v2 v3 v4 v5 bv:Value)(q:Qu)(u d lo hi m j:Int)(w:World)(hh:qJ w M bh bd l ts done)(hB:B<=w.heap.size)(hq:Qm w B q v0 v1 v2 v3 v4 v5)(am:∃ a n c,bv=.slice a n c)(I:ByteArray)(R:Int)(G:l[0]? = some (I,R))(z er:Int)(hz:iU (prt l q I)=(z,er)) :
  Calls prog 25 #[.pointer (some ⟨bh,0,none⟩),oA pn v0 v1 v2 v3 v4 v5 u d lo hi bv,.agg #[int i64 m,int i64 j]] w (iQ w (ev (tZ pn z er m j))):=by
 obtain⟨cv,rv,bk,bm,n,v,D,h,BB,N,k⟩:=hh;obtain⟨ah,aj,ai,rfl⟩:=am;obtain⟨kk,V,kl,Z,T,kn,Y,U,km,kp,rfl,rfl,rfl,rfl,rfl,rfl⟩:=hq.shape;obtain⟨W,y⟩:∃ W,(((w.alloc (.cells #[.string pn,int i64 kk,.string V,int i64 kl,int i64 Z,.slice T kn Y,.slice U km kp,int i64 u,int i64 d,int i64 lo,int i64 hi,.slice ah aj ai] 55)).alloc (.cells #[int i64 m,int i64 j] 37)).alloc (.cells #[int i64 0,.string ⟨#[]⟩,int i64 0,int i64 0,int i64 0] 72)).alloc (.cells #[int i64 2,.string pn,int i64 0,int i64 m,int i64 j] 72)=W:=⟨_,rfl⟩;have i:xQ w W:=y▸bal (bal (bal (ba _ _) _) _) _;have A1:Cl W w.heap.size 1 (int i64 kk):=y▸(((Cl.new _ 55 1 _ rfl rfl).at (ba _ _)).at (ba _ _)).at (ba _ _);have A2:Cl W w.heap.size 2 (.string V):=y▸(((Cl.new _ 55 2 _ rfl rfl).at (ba _ _)).at (ba _ _)).at (ba _ _);have A3:Cl W w.heap.size 3 (int i64 kl):=y▸(((Cl.new _ 55 3 _ rfl rfl).at (ba _ _)).at (ba _ _)).at (ba _ _);have A4:Cl W w.heap.size 4 (int i64 Z):=y▸(((Cl.new _ 55 4 _ rfl rfl).at (ba _ _)).at (ba _ _)).at (ba _ _);have A5:Cl W w.heap.size 5 (.slice T kn Y):=y▸(((Cl.new _ 55 5 _ rfl rfl).at (ba _ _)).at (ba _ _)).at (ba _ _);have A6:Cl W w.heap.size 6 (.slice U km kp):=y▸(((Cl.new _ 55 6 _ rfl rfl).at (ba _ _)).at (ba _ _)).at (ba _ _);have HZ:Hid (FivB W (w.heap.size+1+1) (int i64 0) (.string ⟨#[]⟩) (int i64 0) (int i64 0) (int i64 0)):=y▸(FivB.new _ _ _ _ _ _ 72 _ (by simp)).below (ba _ _);have HV:Hid (FivB W (w.heap.size+1+1+1) (int i64 2) (.string pn) (int i64 0) (int i64 m) (int i64 j)):=y▸FivB.new _ _ _ _ _ _ 72 _ (by simp);have hC:HouC W bh bd cv rv bk done.length false:=k.hc.at i;have hT:lD W.drew h BB cv rv l ts:=(k.tb.kp (K:=fun _=>False) (xX i) k.hB.2 (fun _ _ _ h=>h)).kp (K:=fun _=>False) (xX (uQ _ _).drew) (bQ k.hB.2 i.size) (fun _ _ _ h=>h);obtain⟨rs,ao,S,_⟩:=bwX hT (bQ k.hB.2 i.size);have h0:0<l.length:=(fQ.1 G).1;obtain⟨ca,cc,rfl,_⟩:=S.slice;obtain⟨b,o,nm,sz,rfl,hb,F,c1,_,_⟩:=S.get (vQ _) (uQ _ _) h0;obtain⟨rfl,rfl⟩:nm=I/\sz=R:=by rw[G] at F;simpa [eq_comm] using F
 have ak:W.cell? ⟨b,o,none⟩=some (.string nm):=by simpa using c1
 have Q:Qm W.drew W.heap.size q (int i64 kk) (.string V) (int i64 kl) (int i64 Z) (.slice T kn Y) (.slice U km kp):=afQ (bQ hB i.size) q (hq.at hB i.drew);have k2:=ejZ l q nm W.drew W.heap.size _ _ _ _ _ _ _ z er (vQ _) S Q hz;have m0:=hC.c0.c;have n1:=A1.c;have n2:=A2.c;have n3:=A3.c;have n4:=A4.c;have n5:=A5.c;have n6:=A6.c;have H:w.heap.size<W.heap.size:=A1.lt;have lb:b<W.heap.size:=hb;have ac:=qQ i;clear S hq Q hz F c1 A1 A2 A3 A4 A5 A6 hC hT k G ao i;go_enter func25,ntmps25;go_wp2;clear y
 go_region_held3 (fun w'=>w'.cell? ⟨w.heap.size,1,none⟩=some (int i64 kk)/\w'.cell? ⟨w.heap.size,2,none⟩=some (.string V)/\w'.cell? ⟨w.heap.size,3,none⟩=some (int i64 kl)/\w'.cell? ⟨w.heap.size,4,none⟩=some (int i64 Z)/\w'.cell? ⟨w.heap.size,5,none⟩=some (.slice T kn Y)/\w'.cell? ⟨w.heap.size,6,none⟩=some (.slice U km kp)/\w'.cell? ⟨b,o,none⟩=some (.string nm)) (first|assumption|(simp[go_sem, *];done)) ((go_at_call 56;refine k2.mono ?_;rintro x3 w3 hA;obtain⟨rfl,g⟩:=hA;have z1:=(g.cell (p:=⟨w.heap.size,1,none⟩) H).trans n1;have z2:=(g.cell (p:=⟨w.heap.size,2,none⟩) H).trans n2;have z3:=(g.cell (p:=⟨w.heap.size,3,none⟩) H).trans n3;have z4:=(g.cell (p:=⟨w.heap.size,4,none⟩) H).trans n4;have z5:=(g.cell (p:=⟨w.heap.size,5,none⟩) H).trans n5;have z6:=(g.cell (p:=⟨w.heap.size,6,none⟩) H).trans n6;have z7:=(g.cell (p:=⟨b,o,none⟩) lb).trans ak))
 have B0:xQ w w3:=bt ac.out.drew g;have C:=qQ ((HV.out.below (uQ _ _).drew).below g);have E:=qQ ((HZ.out.below (uQ _ _).drew).below g);have J:=qQ B0;clear k2 n1 n2 n3 n4 n5 n6 H lb g z1 z2 z3 z4 z5 z6 z7 m0 B0;by_cases c:er=0
 ·subst c
  obtain⟨X,hX⟩:∃ X,(w3.setCell ⟨w.heap.size+1+1+1,0,none⟩ (int i64 3)).setCell ⟨w.heap.size+1+1+1,2,none⟩ (int i64 z)=X:=⟨_,rfl⟩;have BX:xQ w X:=hX▸bs (bs J.out (by simp;omega) _) (by simp;omega) _
  have ag:FivB X (w.heap.size+1+1+1) (int i64 3) (.string pn) (int i64 z) (int i64 m) (int i64 j):=by
   rw[<-hX];obtain⟨q0,q1,q2,q3,q4,f0,f1,f2,f3,f4,hl⟩:=C.out;constructor <;> simp[oR,pR,uU,q0,q1,q2,q3,q4,f0,f1,f2,f3,f4,hl,go_sem]
  have O:FivB X (w.heap.size+1+1) (int i64 0) (.string ⟨#[]⟩) (int i64 0) (int i64 0) (int i64 0):=hX▸E.out.gb (aX (aX (wX _ (some (w.heap.size+1+1+1))) _ _) _ _) (by simp);have L:=mP O (int i64 3) (.string pn) (int i64 z) (int i64 m) (int i64 j);have A:=qQ L;obtain⟨q0,_,q2,_,_,g0,_,g2,_,_,_⟩:=C.out;obtain⟨r0,r1,r2,r3,r4,_,_,_,_,_,_⟩:=ag;obtain⟨s0,s1,s2,s3,s4,f0,f1,f2,f3,f4,_⟩:=O;have ae:=qQ BX;clear L BX;go_wp2;obtain⟨t0,t1,t2,t3,t4,_,_,_,_,_,_⟩:=A.out;refine eQ (v:=.agg #[int i64 3,.string pn,int i64 z,int i64 m,int i64 j]) ?_ rfl ⟨rfl,?_⟩
  ·simp[results,results25,go_sem,t0,t1,t2,t3,t4]
  ·exact bs (bs (bs (bs (bs ae.out (by simp;omega) _) (by simp;omega) _) (by simp;omega) _) (by simp;omega) _) (by simp;omega) _
 ·have c1:(er == 0)=false:=by simpa using c
  have L:=mP E.out (int i64 2) (.string pn) (int i64 0) (int i64 m) (int i64 j);have A:=qQ L;obtain⟨r0,r1,r2,r3,r4,_,_,_,_,_,_⟩:=C.out;obtain⟨s0,s1,s2,s3,s4,f0,f1,f2,f3,f4,_⟩:=E.out;have P:tZ pn z er m j=(2,pn,0,m,j):=by unfold tZ;rw[zQ c]
  have af:=qQ P;clear L P;go_wp2;obtain⟨t0,t1,t2,t3,t4,_,_,_,_,_,_⟩:=A.out;refine eQ (v:=.agg #[int i64 2,.string pn,int i64 0,int i64 m,int i64 j]) ?_ rfl ⟨?_,?_⟩
  ·simp[results,results25,go_sem,t0,t1,t2,t3,t4]
  ·rw[af.out]
  ·exact bs (bs (bs (bs (bs J.out (by simp;omega) _) (by simp;omega) _) (by simp;omega) _) (by simp;omega) _) (by simp;omega) _
end K.P
section
open Go.RowKit Ds
open K (Cl)
open K.P (HSt Keeps xX lX vZ qJ DskM vH jZ gZ Ev Sn oA tZ TwoB)
def Bx (w:World) (b:Nat) (cs:List Value):Prop:=∀ k v,cs[k]? = some v->Cl w b k v
theorem Bx.at {cs:List Value}(h:Bx w b cs)(a:xQ w w'):Bx w' b cs:=fun k v hk=>(h k v hk).at a
theorem Bx.kp {cs:List Value}(h:Bx w b cs)(a:Keeps w w' N)(g:¬ N b):Bx w' b cs:=fun k v hv=>K.P.wV (h k v hv) a g
theorem Bx.new (w:World)(cs:List Value)(t:TypeId){N:Nat}(a:N=w.heap.size):Bx (w.alloc (.cells cs.toArray t)) N cs:=fun k v hk=>Cl.new _ t k v a (by simpa using hk)
theorem Bx.set {cs:List Value}(h:Bx w b cs)(hi:i<cs.length)(u:Value):Bx (w.setCell ⟨b,i,none⟩ u) b (cs.set i u):=fun k v hk=>by
 by_cases c:i=k
 ·subst c
  rw[wD hi] at hk;cases hk;obtain⟨z,a⟩:∃ z,cs[i]? = some z:=⟨_,nZ hi⟩;exact(h i z a).set _
 ·rw[sF c] at hk
  exact(h k v hk).oth (.inr c) _
theorem Bx.oth {b':Nat}{cs:List Value}(h:Bx w b cs)(a:b'≠b)(u:Value):Bx (w.setCell ⟨b',k,none⟩ u) b cs:=fun j v hj=>(h j v hj).oth (.inl a) _
theorem bwZ {u d lo hi:Int}{l:List K.Ds.aQ}{rs:List (List Int)}{q:K.Ds.Qu}{ls:List (List Pt)}(h:eA u d lo hi l rs q=(ls,p,q',0)){v0 v1 v2 v3 v4 v5:Value}(m:K.Qm w B q v0 v1 v2 v3 v4 v5):1<=ls.length/\K.Ds.fV l rs=0:=by
 obtain⟨_,a,g,_⟩:=aeZ h;have j:q≠.none:=by rintro rfl;exact m.elim
 unfold K.lV at a g;by_cases c:K.Ds.fV l rs=0
 ·rw[jQ c] at a g
  cases hb:K.Ds.bnd l 1 q with
  | error e =>
   rw[hb] at a;exact absurd a (K.iB q 1 e hb)
  | ok b =>
   rw[hb] at g;obtain⟨i,k,_⟩:=K.Ds.xM c;have o:=(K.Ds.nI i).2.2.1;have v:=K.afX o q 1 b _ _ _ _ _ _ m hb;have y:=(K.eO o k q 1 b hb j).1;have z:ls.length=(K.ans l rs q).length:=g;exact⟨by omega,c⟩
 ·rw[zQ c] at a
  exact absurd a c
open K (Cl)
open K.P (HSt Keeps xX lX vZ qJ DskM vH jZ gZ Ev Sn oA tZ TwoB)
abbrev aD:Value:=.agg #[.slice none 0 0,int i64 0,int i64 0,int i64 0]
def gL (M:Nat->Prop) (bh bd bw:Nat) (a:Option Addr) (c:Nat) (l:List K.Ds.aQ) (ts:List (List Int)) (s':HSt) (er:Int) (tl:Option (List Int × Nat)) (lu ld:Int) (w:World) (e:Ending) (w':World):Prop :=
 Keeps w w' (fun k=>M k\/k=bd\/k=bw)/\DskM w' bd bw a c s'.disk s'.left/\∃ M':Nat->Prop,(∀ k,M' k->M k\/w.heap.size<=k/\k<w'.heap.size) /\
  (s'.brk=false->qJ w' M' bh bd l ts s'.done)/\(s'.brk=true->Cl w' bh 5 (.bool true)) /\
  ((er≠0/\e=.returned (.tuple #[aD,int i64 er])) \/
   (er=0/\∃ vs us g,tl=some (vs,us)/\vs≠[]/\vs.length<=4096/\us<=65536/\e=.returned (.tuple #[.agg #[.slice (some ⟨g,0,none⟩) (vs:List Int).length vs.length,int i64 (us:Int),int i64 lu,int i64 ld],int i64 0])/\w.heap.size<=g/\¬ M' g/\K.RowI w' g vs))
theorem ekX (bh:Nat)(pn:ByteArray)(v0 v1 v2 v3 D E bv:Value)(u d lo hi:Int)(w:World)(h:Cl w bh 5 (.bool true))(F:∃ k c z y A B wc a n cap,v0=int i64 k/\v1=.string c/\v2=int i64 z/\v3=int i64 y/\D=.slice A B wc/\E=.slice a n cap)(p:∃ a n c,bv=.slice a n c) :
  Calls prog 11 #[.pointer (some ⟨bh,0,none⟩),oA pn v0 v1 v2 v3 D E u d lo hi bv] w (iQ w (.tuple #[aD,int i64 9])):=by
 obtain⟨k,c,z,y,A,B,wc,a,n,cap,rfl,rfl,rfl,rfl,rfl,rfl⟩:=F;obtain⟨l,o,m,rfl⟩:=p;obtain⟨W,C⟩:∃ W,(w.alloc (.cells #[.string pn,int i64 k,.string c,int i64 z,int i64 y,.slice A B wc,.slice a n cap,int i64 u,int i64 d,int i64 lo,int i64 hi,.slice l o m] 55)).alloc (.cells #[.slice none 0 0,int i64 0,int i64 0,int i64 0] 39)=W:=⟨_,rfl⟩;have j:xQ w W:=C▸bal (ba _ _) _;have G:=(h.at j).c;have hR:Bx W (w.heap.size+1) [.slice none 0 0,int i64 0,int i64 0,int i64 0]:=C▸Bx.new _ [.slice none 0 0,int i64 0,int i64 0,int i64 0] 39 (by simp);have r0:=(hR 0 _ rfl).c;have r1:=(hR 1 _ rfl).c;have H:=(hR 2 _ rfl).c;have I:=(hR 3 _ rfl).c;have f0:=(hR 0 _ rfl).f;have f1:=(hR 1 _ rfl).f;have f2:=(hR 2 _ rfl).f;have f3:=(hR 3 _ rfl).f;have g:=(((hR.set (i:=0) (by decide) (.slice none 0 0)).set (i:=1) (by decide) (int i64 0)).set (i:=2) (by decide) (int i64 0)).set (i:=3) (by decide) (int i64 0);have x0:=(g 0 _ rfl).c;have x1:=(g 1 _ rfl).c;have x2:=(g 2 _ rfl).c;have x3:=(g 3 _ rfl).c;clear hR g;go_enter func11,ntmps11;go_wp2;refine eQ (v:=.tuple #[aD,int i64 9]) ?_ rfl ⟨rfl,?_⟩
 ·simp[results,results11,go_sem,x0,x1,x2,x3]
 ·exact bs (bs (bs (bs j (by simp) _) (by simp) _) (by simp) _) (by simp) _
