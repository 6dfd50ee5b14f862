import Derived.Test.YtdceajgpolckiaaGreatDoorQq34
open Go.Proofs.Tryz
set_option linter.unusedSimpArgs false
set_option maxHeartbeats 16000000
set_option maxRecDepth 100000
namespace Go.Proofs.YtdceajgpolckiaaGreatDoor
namespace K.P
open Go.RowKit K.Ds
def wD (l:List jQ):List Value:=l.flatMap fun c=>[.string c.1,.int .i64 c.2]
theorem auX (l:List jQ):(wD l).length=l.length*2:=by
 induction l with
 | nil=>rfl
 | cons c l ih=>simp only[wD,wI,zJ,iF] at *;rw[ih];simp;omega
theorem zO:∀ {l:List jQ} {i:Nat} {c:jQ},l[i]? = some c->(wD l)[i*2]? = some (.string c.1)/\(wD l)[i*2+1]? = some (.int .i64 c.2)
 | c0::l,0,c,h=>by simp at h;subst h;exact⟨rfl,rfl⟩
 | c0::l,i+1,c,h=>by
  have ih:=zO (l:=l) (i:=i) (c:=c) (by simpa using h);have e:wD (c0::l)=.string c0.1::.int .i64 c0.2::wD l:=rfl;rw[e,show(i+1)*2=i*2+1+1 by omega];simpa using ih
theorem dmQ {l:List jQ}{j:Nat}{u:Value}(h:(wD l)[j]? = some u):∃ i c,l[i]? = some c/\(j=i*2/\u=.string c.1\/j=i*2+1/\u=.int .i64 c.2):=by
 have hj:j<l.length*2:=by rw[<-auX];exact(lQ.1 h).1
 obtain⟨c,hc⟩:∃ c,l[j / 2]? = some c:=⟨_,dZ (by omega)⟩;obtain⟨h1,h2⟩:=zO hc;rcases (show j=j / 2*2\/j=j / 2*2+1 by omega) with e|e
 ·rw[<-e] at h1
  rw[h1] at h;exact⟨j / 2,c,hc,.inl ⟨e,(Option.some.inj h).symm⟩⟩
 ·rw[<-e] at h2
  rw[h2] at h;exact⟨j / 2,c,hc,.inr ⟨e,(Option.some.inj h).symm⟩⟩
abbrev zs:Value:=.slice none 0 0
structure CpS (w:World) (cv rv:Value) (W:World):Prop where
 b:Below w.heap.size w W
 e:TwoB W w.heap.size cv rv
 r:TwoB W (w.heap.size+1) zs zs
 s:w.heap.size+2<=W.heap.size
theorem CpS.at {w W W':World}{cv rv:Value}(h:CpS w cv rv W)(hb:Below W.heap.size W W'):CpS w cv rv W' :=
 ⟨bt h.b hb,h.e.below hb,h.r.below hb,uQ h.s hb.size⟩
theorem CpS.cells {w W:World}{cv rv:Value}(h:CpS w cv rv W):W.cell? ⟨w.heap.size,0,none⟩=some cv/\W.cell? ⟨w.heap.size,1,none⟩=some rv:=⟨h.e.c0,h.e.c1⟩
theorem cR {w W:World}{cv rv:Value}{g:Nat}(h:CpS w cv rv W)(hg:w.heap.size+2<=g)(u u':Value):CpS w cv rv ((W.setCell ⟨g,0,none⟩ u).setCell ⟨g,1,none⟩ u') :=
 ⟨bs (bs h.b (by simp;omega) _) (by simp;omega) _,h.e.gb (sQ (sQ (dX _ (some g)) _ _) _ _) (by simp;omega),h.r.gb (sQ (sQ (dX _ (some g)) _ _) _ _) (by simp;omega),by simpa [World.setCell] using h.s⟩
theorem dmX {W w3:World}(hb:Below (W.alloc (.cells #[zs,zs] 25)).drew.heap.size (W.alloc (.cells #[zs,zs] 25)).drew w3):TwoB w3 W.heap.size zs zs :=
 ((TwoB.new W _ _ 25 _ rfl).below (aQ _ _).drew).below hb
theorem dmZ {W w3:World}(hb:Below (W.alloc (.cells #[zs,zs] 25)).heap.size (W.alloc (.cells #[zs,zs] 25)) w3):TwoB w3 W.heap.size zs zs :=
 (TwoB.new W _ _ 25 _ rfl).below hb
structure CpR (w:World) (cv rv:Value) (l:List jQ) (rs:List Value) (g:Nat) (cv' rv':Value) (W:World):Prop where
 s:CpS w cv rv W
 g2:w.heap.size+2<=g
 t:TwoB W g cv' rv'
 c:W.ownsRow (w.heap.size+2) 82 2 cv' l.length (wD l)
 r:W.ownsRow (w.heap.size+2) 37 1 rv' rs.length rs
 d:∀ x,cv'.ownBlock=some x->x≠g/\rv'.ownBlock≠some x
 d2:∀ x,rv'.ownBlock=some x->x≠g
theorem auZ {w w4:World}{cv rv cv' rv':Value}{l:List jQ}{rs:List Value}{g:Nat}(hS:CpS w cv rv w4)(hg:w.heap.size+2<=g)(ht:TwoB w4 g zs zs)(hc:w4.ownsRow (w.heap.size+2) 82 2 cv' l.length (wD l))(hr:w4.ownsRow (w.heap.size+2) 37 1 rv' rs.length rs)(d:∀ x,cv'.ownBlock=some x->x≠g/\rv'.ownBlock≠some x)(d2:∀ x,rv'.ownBlock=some x->x≠g) :
  CpR w cv rv l rs g cv' rv' ((w4.setCell ⟨g,0,none⟩ cv').setCell ⟨g,1,none⟩ rv'):=by
 have hG:w4.grownBy ((w4.setCell ⟨g,0,none⟩ cv').setCell ⟨g,1,none⟩ rv') (some g):=sQ (sQ (dX _ (some g)) _ _) _ _;refine⟨cR hS hg _ _,hg,?_,gZ hc hG (fun x hx e=>(d x hx).1 (by simpa using e.symm)),gZ hr hG (fun x hx e=>d2 x hx (by simpa using e.symm)),d,d2⟩;obtain⟨c0,c1,f0,f1,hl⟩:=ht;constructor <;> simp[nM,oM,jY,c0,c1,f0,f1,hl,go_sem]
theorem dmJ {pre l:List jQ}(h:rZ pre l=0):∀ c∈l,c.1.size<=32:=by
 induction l generalizing pre with
 | nil=>intro c hc;cases hc
 | cons c r ih =>
  simp only[rZ] at h;split at h
  ·rename_i hn
   split at h
   ·cases h
   ·split at h
    ·cases h
    ·intro d hd
     rcases yX.1 hd with rfl|hd
     ·unfold eZ at hn
      simp only[wM,oV] at hn;have h2:=hn.1.2;rw[qN] at h2;exact h2
     ·exact ih h d hd
  ·cases h
theorem CpR.at {w W W':World}{cv rv cv' rv':Value}{l:List jQ}{rs:List Value}{g:Nat}(h:CpR w cv rv l rs g cv' rv' W)(hb:Below W.heap.size W W'):CpR w cv rv l rs g cv' rv' W' :=
 ⟨h.s.at hb,h.g2,h.t.below hb,gZ h.c (nD hb) (by simp),gZ h.r (nD hb) (by simp),h.d,h.d2⟩
def uH (w:World) (lo rb:Nat) (us:List Rw):Prop:=∀ u∈us,∃ gb c,u.1=.slice (some ⟨gb,0,none⟩) u.2.length c/\u.2.length<=c/\lo<=gb/\rb<gb/\∀ k x,u.2[k]? = some x->Cl w gb k (.int .i64 x)
theorem uH.at {w w':World}{lo rb:Nat}{us:List Rw}(h:uH w lo rb us)(hb:Below w.heap.size w w'):uH w' lo rb us:=fun u hu=>by
 obtain⟨gb,c,h1,h2,h3,h4,h5⟩:=h u hu;exact⟨gb,c,h1,h2,h3,h4,fun k x hx=>(h5 k x hx).at hb⟩
theorem uH.set {w:World}{lo rb i:Nat}{us:List Rw}(h:uH w lo rb us)(v:Value):uH (w.setCell ⟨rb,i,none⟩ v) lo rb us:=fun u hu=>by
 obtain⟨gb,c,h1,h2,h3,h4,h5⟩:=h u hu;exact⟨gb,c,h1,h2,h3,h4,fun k x hx=>(h5 k x hx).oth (.inl (by omega)) _⟩
theorem dnQ {w:World}{b k:Nat}{v:Value}(h:w.cell? ⟨b,k,none⟩=some v):w.setCell ⟨b,k,none⟩ v=w:=by
 have key:(w.setCell ⟨b,k,none⟩ v).heap=w.heap:=by
  apply Array.ext
  ·simp[World.setCell]
  ·intro j h1 h2
   unfold World.setCell;simp only;rw[Array.getElem_modify];split
   ·rename_i e
    subst e;cases hx:w.heap[b] with
    | cells c e f =>
     have hk:c[k]? = some v:=by
      simpa [World.cell?,Array.getElem?_eq_getElem h2,hx] using h
     have:c.setIfInBounds k v=c:=by
      apply Array.ext_getElem?;intro m;rw[Array.getElem?_setIfInBounds];split
      ·rename_i e2
       subst e2;have hlt:=(jU.1 hk).1;rw[xQ hlt,hk]
      ·rfl
     simp[this]
    | _=>rfl
   ·rfl
 have e:w.setCell ⟨b,k,none⟩ v={ w with heap:=(w.setCell ⟨b,k,none⟩ v).heap }:=rfl;rw[e,key]
theorem eD {w:World}{base:Nat}{t:TypeId}{sz:Nat}{a:Option Addr}{n c:Nat}{xs:List Value}(h:w.ownsRow base t sz (.slice a n c) n xs){j:Nat}{u:Value}(hj:xs[j]? = some u):∃ g,a=some ⟨g,0,none⟩/\n<=c/\Cl w g j u:=by
 obtain⟨hl,⟨hv,h0⟩|⟨g,cap,cur,hv,hb,hcur,hc,_,hsz,hx⟩⟩:=h
 ·cases hv
  have:=(lQ.1 hj).1;omega
 ·cases hv
  have hjl:=(lQ.1 hj).1;rw[<-hx,jI (by omega)] at hj;refine⟨g,rfl,hc,?_,dN hcur,(jU.1 hcur).1⟩;simpa [World.cell?,hcur] using hj
theorem dnX {w:World}{base:Nat}{t:TypeId}{g n c i:Nat}{xs:List Value}(h:w.ownsRow base t 1 (.slice (some ⟨g,0,none⟩) n c) n xs)(hi:i<n)(u:Value):(w.setCell ⟨g,i,none⟩ u).ownsRow base t 1 (.slice (some ⟨g,0,none⟩) n c) n (xs.set i u):=by
 obtain⟨hl,⟨hv,h0⟩|⟨g',cap,cur,hv,hb,hcur,hc,hm,hsz,hx⟩⟩:=h
 ·cases hv
 ·cases hv
  refine⟨by rw[yL];exact hl,.inr ⟨g,c,cur.setIfInBounds i u,rfl,hb,?_,hc,hm,by simpa using hsz,?_⟩⟩
  ·unfold World.setCell
   simp only[Option.isSome_none,Bool.false_eq_true,jL];rw[Array.getElem?_modify,xQ rfl,hcur];rfl
  ·rw[<-hx,Array.toList_setIfInBounds]
   apply zK;intro j;simp only[eH,List.getElem?_set,lU];by_cases c1:j<n*1
   ·simp only[c1,zD]
    by_cases c2:i=j
    ·subst c2
     have e1:i<cur.toList.length:=by rw[qN];omega
     rw[xQ rfl,xQ rfl,xQ e1,xQ (by omega)]
    ·simp[c2]
   ·simp only[c1,jL]
    by_cases c2:i=j
    ·omega
    ·simp[c2]
theorem CpR.setR {w W:World}{cv rv cv':Value}{l:List jQ}{rs:List Value}{g rb n c i:Nat}(h:CpR w cv rv l rs g cv' (.slice (some ⟨rb,0,none⟩) n c) W)(hn:rs.length=n)(hi:i<n)(u:Value):CpR w cv rv l (rs.set i u) g cv' (.slice (some ⟨rb,0,none⟩) n c) (W.setCell ⟨rb,i,none⟩ u):=by
 subst hn;have h2:=h.d2 rb rfl;have h3:=yZ h.r (g:=rb) rfl;have hG:W.grownBy (W.setCell ⟨rb,i,none⟩ u) (some rb):=sQ (dX _ _) _ _;refine⟨⟨bs h.s.b (by simp;omega) _,h.s.e.gb hG (by simp;omega),h.s.r.gb hG (by simp;omega),by simpa [World.setCell] using h.s.s⟩,h.g2,h.t.gb hG (by simpa using fun e=>h2 e.symm),gZ h.c hG (fun x hx e=>(h.d x hx).2 (by simpa [Value.ownBlock] using e)),?_,h.d,h.d2⟩;rw[yL];exact dnX h.r hi u
theorem dnZ {w W:World}{l:List jQ}{us:List Rw}{m n:Nat}{ca ra:Option Addr}{cc rc:Nat}(hC:W.ownsRow (w.heap.size+2) 82 2 (.slice ca l.length cc) l.length (wD l))(hrow:W.ownsRow (w.heap.size+2) 37 1 (.slice ra m rc) us.length (us.map (·.1)))(hm:us.length=m)(hl:1<=l.length/\l.length<=6)(hn:us.length<=4096)(hx:∀ u∈us,u.2.length=l.length)(hnm:∀ c∈l,c.1.size<=32)(hN:∀ rb,ra=some ⟨rb,0,none⟩->uH W w.heap.size rb us)(hB:W.heap.size=n) :
  pG W w.heap.size n (.slice ca l.length cc) (.slice ra m rc) l (rr us):=by
 subst hB hm;obtain⟨c0,hc0⟩:∃ c0,l[0]? = some c0:=⟨_,dZ (by omega)⟩;obtain⟨gc,rfl,hcap,hcl⟩:=eD hC (zO hc0).1;have hgc:=yZ hC (g:=gc) rfl;refine djZ ⟨_,cc,rfl,hcap,by omega,fun x hx=>by have:=hnm x hx;omega,fun _=>⟨gc,0,rfl,hgc.2,fun i x hi=>?_⟩⟩ ?_ ?_ ?_
 ·obtain⟨h1,h2⟩:=zO hi
  obtain⟨g1,e1,_,k1⟩:=eD hC h1;obtain⟨g2,e2,_,k2⟩:=eD hC h2;cases e1;cases e2;rw[jZ];exact⟨k1.c,k2.c⟩
 ·refine⟨ra,rc,rfl,?_,by omega,fun u hu=>?_,fun hne=>?_⟩
  ·rcases hrow.2 with⟨hv,h0⟩|⟨g',cap,cur,hv,_,_,hc,_⟩
   ·simp only[xV] at hv;omega
   ·simp only[xV] at hv;omega
  ·have hra:∃ rb,ra=some ⟨rb,0,none⟩:=by
    obtain⟨k,hk⟩:=List.getElem?_of_mem hu;obtain⟨rb,h1,_⟩:=eD hrow (j:=k) (u:=u.1) (by simp[hk]);exact⟨rb,h1⟩
   obtain⟨rb,hrb⟩:=hra;obtain⟨gb,c,h1,h2,h3,h4,h5⟩:=hN rb hrb u hu;have h6:=hx u hu;obtain⟨x0,hx0⟩:∃ x0,u.2[0]? = some x0:=⟨_,dZ (by omega)⟩;have h7:=(h5 0 x0 hx0).lt;exact⟨some ⟨gb,0,none⟩,c,h1,h2,by omega,fun _=>⟨gb,0,rfl,h7,by omega,fun i x hi=>by rw[jZ];exact(h5 i x hi).c⟩⟩
  ·obtain⟨u0,hu0⟩:∃ u0,us[0]? = some u0:=⟨_,dZ (by cases us;exact absurd rfl hne;simp)⟩
   obtain⟨rb,rfl,_,hlt⟩:=eD hrow (j:=0) (u:=u0.1) (by simp[hu0]);refine⟨rb,0,rfl,hlt.lt,fun i t hi=>?_⟩;obtain⟨g1,e1,_,k1⟩:=eD hrow (j:=i) (u:=t.1) (by simp[hi]);cases e1;rw[jZ];exact k1.c
 ·intro b o n c e
  cases e;omega
 ·refine⟨fun b o n c e=>?_,fun u hu b o n c e=>?_⟩
  ·cases e
   have:=yZ hrow (g:=b) (by
    rcases hrow.2 with⟨hv,h0⟩|⟨g',cap,cur,hv,_⟩
    ·cases hv
    ·cases hv;rfl)
   omega
  ·obtain⟨k,hk⟩:=List.getElem?_of_mem hu
   obtain⟨rb,hrb,_⟩:=eD hrow (j:=k) (u:=u.1) (by simp[hk]);obtain⟨gb,c2,h1,_,h3,_⟩:=hN rb hrb u hu;rw[h1] at e;cases e;exact h3
theorem dnJ {w W:World}{cv rv cv' rv':Value}{l:List jQ}{rs:List Value}{g rb i:Nat}{u:Value}(h:CpR w cv rv l rs g cv' rv' W)(hb:rv'.ownBlock=some rb):(W.setCell ⟨rb,i,none⟩ u).cell? ⟨g,1,none⟩=some rv':=by
 have h2:=h.d2 rb hb;exact(h.t.gb (sQ (dX _ (some rb)) _ _) (by simpa using fun e=>h2 e.symm)).c1
theorem doQ (B:Nat)(cv rv:Value)(l:List jQ)(rs:List Rw)(w:World)(hB:B<=w.heap.size)(hp:eQ w B cv l)(hq:iQ w B rv rs)(hwr:fZ l (rr rs)=0) :
  Calls prog 45 #[.agg #[cv,rv]] w fun e w'=>∃ cv' rv',e=.returned (.agg #[cv',rv'])/\Below w.heap.size w w'/\pG w' w.heap.size w'.heap.size cv' rv' l (rr rs):=by
 obtain⟨hco,hrl,hro⟩:=gN hwr;obtain⟨hc1,hc6,_,_,hcl⟩:=iK hco;rw[aF] at hrl;have HP:Hid (eQ w B cv l):=hp;have HQ:Hid (iQ w B rv rs):=hq;have HRO:Hid (∀ r∈rr rs,dJ l r):=hro;have HNM:Hid (∀ c∈l,c.1.size<=32):=dmJ hcl;obtain⟨ca,cc,rfl,_⟩:=hp.slice;obtain⟨ra,rc,rfl,_⟩:=hq.slice;obtain⟨W,hW⟩:∃ W,(w.alloc (.cells #[.slice ca l.length cc,.slice ra rs.length rc] 25)).alloc (.cells #[zs,zs] 25)=W:=⟨_,rfl⟩;have hS:CpS w (.slice ca l.length cc) (.slice ra rs.length rc) W:=hW▸⟨bal (ba _ _) _,(TwoB.new w _ _ 25 _ rfl).below (ba _ _),TwoB.new _ _ _ 25 _ (by simp),by simp⟩
 have kc:∀ W,CpS w (.slice ca l.length cc) (.slice ra rs.length rc) W->Calls prog 89 #[.slice ca l.length cc] W fun e w'=>∃ a1 c1,e=.returned (.slice a1 l.length c1)/\w'.ownsRow W.heap.size 82 2 (.slice a1 l.length c1) l.length (wD l)/\Below W.heap.size W w'/\CpS w (.slice ca l.length cc) (.slice ra rs.length rc) w':=fun W hW=>by
  have hp2:=HP.out.at hB hW.b;refine(dlX ca l.length cc (wD l) W (auX l) (by omega) ?_ ?_ ?_).mono ?_
  ·rintro rfl
   obtain⟨b,o,_,_,h,_⟩:=hp2.get (uQ hB hW.b.size) (aQ _ _) (i:=0) (by omega);cases h
  ·rintro ad rfl j u hj
   obtain⟨i,c,hc,h⟩:=dmQ hj;obtain⟨b,o,nm,sz,h1,h2,h3,h4,h5,_⟩:=hp2.get (uQ hB hW.b.size) (aQ _ _) (i:=i) (lQ.1 hc).1;rw[hc] at h3;cases h3;cases h1;rw[iA];refine⟨qX h2 (uQ hB hW.b.size),?_⟩;rcases h with⟨rfl,rfl⟩|⟨rfl,rfl⟩
   ·exact h4
   ·rw[<-aG];exact h5
  ·intro u hu
   obtain⟨c,_,hc⟩:=pM.1 hu;simp at hc;rcases hc with rfl|rfl <;> rfl
  ·rintro e w' ⟨v',rfl,h1,h2⟩
   obtain⟨a1,c1,rfl⟩:=aY h1;exact⟨a1,c1,rfl,h1,h2,hW.at h2⟩
 have kr:∀ W,CpS w (.slice ca l.length cc) (.slice ra rs.length rc) W->Calls prog 90 #[.slice ra rs.length rc] W fun e w'=>∃ a1 c1,e=.returned (.slice a1 rs.length c1)/\w'.ownsRow W.heap.size 37 1 (.slice a1 rs.length c1) rs.length (rs.map (·.1))/\Below W.heap.size W w'/\CpS w (.slice ca l.length cc) (.slice ra rs.length rc) w':=fun W hW=>by
  have hq2:=HQ.out.at hB hW.b;refine(dlZ ra rs.length rc (rs.map (·.1)) W (by simp) (by omega) ?_ ?_ ?_).mono ?_
  ·rintro rfl
   refine Classical.byContradiction fun hne=>?_;obtain⟨b,o,_,_,_,h,_⟩:=hq2.get (uQ hB hW.b.size) (aQ _ _) (i:=0) (by omega);cases h
  ·rintro ad rfl j u hj
   have hlt:j<rs.length:=by have:=(lQ.1 hj).1;simpa using this
   obtain⟨b,o,sa,sc,xs,h1,h2,h3,h4,_⟩:=hq2.get (uQ hB hW.b.size) (aQ _ _) hlt;rw[xA,h3] at hj;cases hj;cases h1;rw[iA];exact⟨qX h2 (uQ hB hW.b.size),h4⟩
  ·intro u hu
   obtain⟨t,ht,rfl⟩:=tZ.1 hu;obtain⟨_,_,_,_,_,h4,_⟩:=hq2;obtain⟨a2,c2,hv,_⟩:=h4 t ht;rw[hv];rfl
  ·rintro e w' ⟨v',rfl,h1,h2⟩
   obtain⟨a1,c1,rfl⟩:=aY h1;exact⟨a1,c1,rfl,h1,h2,hW.at h2⟩
 have H1:Hid (CpS w (.slice ca l.length cc) (.slice ra rs.length rc) W.drew):=hS.at (aQ _ _).drew;have H2:Hid (∀ o,CpS w (.slice ca l.length cc) (.slice ra rs.length rc) (W.alloc o).drew):=fun o=>(hS.at (ba _ _)).at (aQ _ _).drew;obtain⟨e0,e1⟩:=hS.cells;have hWs:w.heap.size+2<=W.heap.size:=hS.s;have HWS:Hid (w.heap.size+2<=W.heap.size):=hWs;clear hp hq hro hS hwr hco;go_enter func45,ntmps45;go_wp2;clear hW
 go_cut [3] (fun pv wx=>∃ g cv' rv',pv=.pointer (some ⟨g,0,none⟩)/\CpR w (.slice ca l.length cc) (.slice ra rs.length rc) l (rs.map (·.1)) g cv' rv' wx)
 case first =>
  go_region_held3 (fun w'=>w'.cell? ⟨w.heap.size,0,none⟩=some (.slice ca l.length cc)/\w'.cell? ⟨w.heap.size,1,none⟩=some (.slice ra rs.length rc))
   (first|(refine CpS.cells (cv:=.slice ca l.length cc) (rv:=.slice ra rs.length rc) ?_;first|with_reducible exact H1.out|with_reducible exact H2.out _|with_reducible exact hS4|with_reducible exact hS4.at (ba _ _)|with_reducible exact hS3|with_reducible exact hS3.at (ba _ _)|with_reducible exact cR hS4 hS3.s _ _|with_reducible exact cR hS4 HWS.out _ _|with_reducible exact cR (hS4.at (ba _ _)) hS4.s _ _)|(simp[go_sem, *];done))
   (first
    | (go_at_call 89;refine(kc _ ?_).mono ?_;(with_reducible exact H2.out _);rintro x3 w3 ⟨a3,c3,rfl,hO3,hb3,hS3⟩;have hT3:=dmX hb3;obtain⟨s0,s1⟩:=hS3.cells)
    | (go_at_call 89;refine(kc _ ?_).mono ?_;(with_reducible exact H1.out);rintro x3 w3 ⟨a3,c3,rfl,hO3,hb3,hS3⟩;obtain⟨s0,s1⟩:=hS3.cells)
    | (have hmark:=hT3;clear hmark;go_at_call 90;refine(kr _ ?_).mono ?_;(with_reducible exact hS3);rintro x4 w4 ⟨a4,c4,rfl,hO4,hb4,hS4⟩;have hT4:=hT3.below hb4;obtain⟨s2,s3⟩:=hS4.cells;obtain⟨t0,t1,tf0,tf1,htl⟩:=id hT4)
    | (go_at_call 90;refine(kr _ ?_).mono ?_;(with_reducible exact hS3.at (ba _ _));rintro x4 w4 ⟨a4,c4,rfl,hO4,hb4,hS4⟩;have hT4:=dmZ hb4;obtain⟨s2,s3⟩:=hS4.cells;obtain⟨t0,t1,tf0,tf1,htl⟩:=id hT4)
    | (go_at_call 90;refine(kr _ ?_).mono ?_;(with_reducible exact hS3);rintro x4 w4 ⟨a4,c4,rfl,hO4,hb4,hS4⟩;obtain⟨s2,s3⟩:=hS4.cells))
  ·have hs3:=hb3.size
   have hs4:=hb4.size;have z3:W.heap.size<=w3.heap.size:=hs3;go_wp2;go_meet;refine⟨w4.heap.size,_,_,rfl,hS4.at (ba _ _),hS4.s,TwoB.new _ _ _ 25 _ rfl,gZ (qG (gZ hO3 (nD hb4) (by simp)) (by exact HWS.out)) (nD (ba _ _)) (by simp),?_,fun x hx=>?_,fun x hx=>?_⟩
   ·rw[nY];exact gZ (qG hO4 hS3.s) (nD (ba _ _)) (by simp)
   ·have h1:=yZ hO3 hx
    refine⟨by omega,fun e=>?_⟩;have h2:=yZ hO4 e;omega
   ·have h2:=yZ hO4 hx
    omega
  ·have hs3:=hb3.size
   have hs4:=hb4.size;have z3:W.heap.size<=w3.heap.size:=hs3;have z4:w3.heap.size+1<=w4.heap.size:=by simpa using hs4
   go_wp2;go_meet;refine⟨w3.heap.size,_,_,rfl,auZ hS4 hS3.s hT4 (qG (gZ hO3 (nD (bt (ba _ _) hb4)) (by simp)) HWS.out) ?_ (fun x hx=>?_) (fun x hx=>?_)⟩
   ·rw[nY];exact qG hO4 (by have:=hS3.s;simp;omega)
   ·have h1:=yZ hO3 hx
    refine⟨by omega,fun e=>?_⟩;have h2:=yZ hO4 e;simp at h2;omega
   ·have h2:=yZ hO4 hx
    simp at h2;omega
  ·have hs3:=hb3.size
   have hs4:=hb4.size;have z3:W.heap.size+1<=w3.heap.size:=by simpa using hs3
   go_wp2;go_meet;refine⟨W.heap.size,_,_,rfl,auZ hS4 HWS.out hT4 (qG (gZ hO3 (nD hb4) (by simp)) (by have:=HWS.out;simp;omega)) ?_ (fun x hx=>?_) (fun x hx=>?_)⟩
   ·rw[nY];exact qG hO4 hS3.s
   ·have h1:=yZ hO3 hx
    simp at h1;refine⟨by omega,fun e=>?_⟩;have h2:=yZ hO4 e;omega
   ·have h2:=yZ hO4 hx
    omega
 case rest =>
  obtain⟨g,cv',rv',rfl,hR⟩:=hcut;obtain⟨ca',cc',rfl⟩:=aY hR.c;obtain⟨ra',rc',hrv⟩:=aY hR.r;rw[nY] at hrv;subst hrv;have HR:Hid (CpR w (.slice ca l.length cc) (.slice ra rs.length rc) l (rs.map (·.1)) g (.slice ca' l.length cc') (.slice ra' rs.length rc') wc):=hR;obtain⟨e0,e1⟩:=hR.s.cells;clear kc kr H1 H2 hR HWS hWs;go_wp2
  go_loopw [18] (fun t wr=>∃ (i:Nat),t=.int .i64 (i:Int)/\i<=l.length/\Hid (CpR w (.slice ca l.length cc) (.slice ra rs.length rc) l (rs.map (·.1)) g (.slice ca' l.length cc') (.slice ra' rs.length rc') wr)) (fun t _=>l.length - (intOf t).toNat)
  case atStart=>exact⟨0,rfl,nQ _,HR⟩
  case round =>
   obtain⟨i,rfl,hi,HRr⟩:=hrel;by_cases h1:i<l.length
   ·obtain⟨b,o,nm,sz,rfl,hb,hgt,d1,d2,_⟩:=(HP.out.at hB HRr.out.s.b).get (uQ hB HRr.out.s.b.size) (aQ _ _) h1
    obtain⟨X,hX⟩:∃ X,wr.alloc (.cells #[.string nm,.int .i64 sz] 82)=X:=⟨_,rfl⟩;have hRX:=HRr.out.at (hX▸ba wr _:Below wr.heap.size wr X);have TX:TwoB X wr.heap.size (.string nm) (.int .i64 sz):=hX▸TwoB.new _ _ _ 82 _ rfl;have hnm:nm.size<=281474976710656:=by have:=HNM.out _ (uX hgt);simp only at this;omega
    obtain⟨gc,hgc,hcap,hcl⟩:=eD hRX.c (zO hgt).1;subst hgc
    have kS:Calls prog 91 #[.string nm] X.drew fun e w'=>e=.returned (.string nm)/\CpR w (.slice (some ⟨b,o,none⟩) l.length cc) (.slice ra rs.length rc) l (rs.map (·.1)) g (.slice (some ⟨gc,0,none⟩) l.length cc') (.slice ra' rs.length rc') w'/\TwoB w' wr.heap.size (.string nm) (.int .i64 sz)/\Cl w' gc (i*2) (.string nm):=by
     refine(akX nm X.drew hnm).mono ?_;rintro e w' ⟨h2,h3⟩;exact⟨h2,(hRX.at (aQ _ _).drew).at h3,(TX.below (aQ _ _).drew).below h3,(Cl.drew' hcl).at h3⟩
    have t0:=hRX.t.c0;have n0:=TX.c0;have p0:=hcl.c;have p1:=hcl.f;have z1:(i:Int)<(l.length:Int):=by omega
    have HSC:Hid (∀ w',Cl w' gc (i*2) (.string nm)->w'.setCell ⟨gc,i*2,none⟩ (.string nm)=w'):=fun w' h=>dnQ h.c;clear hgt hRX TX hcl HRr HP;go_wp2_with fail;clear hX
    go_region_held3 (fun w'=>w'.cell? ⟨g,0,none⟩=some (.slice (some ⟨gc,0,none⟩) l.length cc')/\w'.cell? ⟨wr.heap.size,0,none⟩=some (.string nm))
     (first|assumption|(simp[go_sem, *];done))
     ((go_at_call 91;refine kS.mono ?_;rintro x w5 ⟨rfl,hR5,hT5,hC5⟩;have y0:=hR5.t.c0;have y1:=hT5.c0;have y2:=hC5.c;have y3:=hC5.f;have y4:=HSC.out _ hC5))
    have HR5:Hid (CpR w (.slice (some ⟨b,o,none⟩) l.length cc) (.slice ra rs.length rc) l (rs.map (·.1)) g (.slice (some ⟨gc,0,none⟩) l.length cc') (.slice ra' rs.length rc') w5):=hR5;clear kS hR5 hT5 hC5 y0 y1 y2 y3 y4 HSC;go_wp2
    go_roundw
    ·exact⟨i+1,by go_num,h1,HR5⟩
    ·simp[intOf];omega
   ·obtain rfl:i=l.length:=by omega
    obtain⟨_,q1⟩:=HRr.out.s.cells;have hrl2:(rs.map (·.1)).length=rs.length:=by simp
    go_wp2
    go_loopw [35] (fun t wr=>∃ (j:Nat) (us:List Rw),t=.int .i64 (j:Int)/\j<=rs.length/\Hid (us.length=j/\rr us=(rr rs).take j/\CpR w (.slice ca l.length cc) (.slice ra rs.length rc) l (us.map (·.1)++(rs.map (·.1)).drop j) g (.slice ca' l.length cc') (.slice ra' rs.length rc') wr)/\Hid (∀ rb,ra' = some ⟨rb,0,none⟩->uH wr w.heap.size rb us)) (fun t _=>rs.length - (intOf t).toNat)
    case atStart=>exact⟨0,[],rfl,nQ _,⟨rfl,by simp[rr],by simpa using HRr.out⟩,fun rb _ u hu=>by cases hu⟩
    case round =>
     obtain⟨j,us,rfl,hj,HJ,HU⟩:=hrel;by_cases h2:j<rs.length
     ·obtain⟨b,o,sa,sc,xs,rfl,hb,hgt,d1,hI⟩:=(HQ.out.at hB HJ.out.2.2.s.b).get (uQ hB HJ.out.2.2.s.b.size) (aQ _ _) h2
      have hxl:xs.length=l.length:=by
       have h3:=HRO.out xs (by rw[rr];exact tZ.2 ⟨_,uX hgt,rfl⟩);exact h3.len
      have hvj:(us.map (·.1)++(rs.map (·.1)).drop j)[j]? = some (.slice sa xs.length sc):=by
       rw[dH (by simp[HJ.out.1]),nY,HJ.out.1,kF,xA,uK,xN,hgt];rfl
      have hlj:(us.map (·.1)++(rs.map (·.1)).drop j).length=rs.length:=by simp[HJ.out.1];omega
      have hrow:=HJ.out.2.2.r;rw[hlj] at hrow;obtain⟨rb,hrb,hcap,hcl⟩:=eD hrow hvj;subst hrb;have hsm:(xs.map (Value.int .i64)).length=xs.length*1:=by simp
      have kI:Calls prog 92 #[.slice sa xs.length sc] wr.drew fun e w'=>∃ gb c,e=.returned (.slice (some ⟨gb,0,none⟩) xs.length c)/\xs.length<=c/\wr.heap.size<=gb/\(∀ k x,xs[k]? = some x->Cl w' gb k (.int .i64 x))/\CpR w (.slice ca l.length cc) (.slice (some ⟨b,o,none⟩) rs.length rc) l (us.map (·.1)++(rs.map (·.1)).drop j) g (.slice ca' l.length cc') (.slice (some ⟨rb,0,none⟩) rs.length rc') w'/\Cl w' rb j (.slice sa xs.length sc)/\uH w' w.heap.size rb us:=by
       obtain⟨a2,c2,hv2,hc2,hl2,hx2⟩:=hI.at (show B<=wr.heap.size from uQ hB HJ.out.2.2.s.b.size) (aQ _ _).drew;cases hv2;have hne:xs≠[]:=by rintro rfl;simp at hxl;omega
       obtain⟨bb,oo,rfl,hbb,_,hcell⟩:=hx2 hne;refine(dlJ (some ⟨bb,oo,none⟩) xs.length sc (xs.map (Value.int .i64)) wr.drew hsm (by omega) (fun h=>by cases h) ?_ ?_).mono ?_
       ·rintro ad h k u hk
        cases h;rw[xA] at hk;cases hxk:xs[k]? with
        | none=>rw[hxk] at hk;cases hk
        | some x =>
         rw[hxk] at hk;cases hk;rw[iA];exact⟨qX hbb (uQ hB HJ.out.2.2.s.b.size),hcell k x hxk⟩
       ·intro u hu
        obtain⟨x,_,rfl⟩:=tZ.1 hu;rfl
       ·rintro e w' ⟨v',rfl,h3,h4⟩
        obtain⟨a3,c3,rfl⟩:=aY h3;obtain⟨x0,hx0⟩:∃ x0,xs[0]? = some x0:=⟨_,dZ (by omega)⟩;obtain⟨gb,rfl,hcp,_⟩:=eD h3 (j:=0) (u:=.int .i64 x0) (by simp[hx0]);have h5:=yZ h3 (g:=gb) rfl;refine⟨gb,c3,rfl,hcp,h5.1,fun k x hk=>?_,(HJ.out.2.2.at (aQ _ _).drew).at h4,(Cl.drew' hcl).at h4,((HU.out rb rfl).at (aQ _ _).drew).at h4⟩;obtain⟨gb2,he,_,hcl2⟩:=eD h3 (j:=k) (u:=.int .i64 x) (by simp[hk]);cases he;exact hcl2
      have t1:=HJ.out.2.2.t.c1;have hrbw:=hcl.lt;have HGT:Hid (rs[j]? = some (.slice sa xs.length sc,xs)/\(us.map (·.1)++(rs.map (·.1)).drop j).length=rs.length):=⟨hgt,hlj⟩;have z1:(j:Int)<(rs.length:Int):=by omega
      clear hgt hI hvj hlj hrow hsm hxl;go_wp2_with fail
      go_region_held3 (fun w'=>w'.cell? ⟨g,1,none⟩=some (.slice (some ⟨rb,0,none⟩) rs.length rc'))
       (first|assumption|(simp[go_sem, *];done)|(exact hX7.out))
       ((go_at_call 92;refine kI.mono ?_;rintro x w5 ⟨gb,c5,rfl,hc5,hgb,hx5,hR5,hC5,hN5⟩;have y0:=hR5.t.c1;have y2:=hC5.c;have y3:=hC5.f;have hX7:Hid ((w5.setCell ⟨rb,j,none⟩ (.slice (some ⟨gb,0,none⟩) xs.length c5)).cell? ⟨g,1,none⟩=some (.slice (some ⟨rb,0,none⟩) rs.length rc')):=dnJ hR5 rfl))
      have hset:(us.map (·.1)++(rs.map (·.1)).drop j).set j (.slice (some ⟨gb,0,none⟩) xs.length c5)=(us++[(Value.slice (some ⟨gb,0,none⟩) xs.length c5,xs)]).map (·.1)++(rs.map (·.1)).drop (j+1):=by
       rw[iO _ _ (by simp[HJ.out.1]),nY,HJ.out.1,uK]
       have hd:(rs.map (·.1)).drop j=.slice sa xs.length sc::(rs.map (·.1)).drop (j+1):=by
        rw[zU (by simpa using h2)];congr 1;have h3:(rs.map (·.1))[j]? = some (.slice sa xs.length sc):=by rw[xA,HGT.out.1];rfl
        rw[dZ (by simpa using h2)] at h3;exact Option.some.inj h3
       rw[hd];simp
      have HR6:Hid ((us++[(Value.slice (some ⟨gb,0,none⟩) xs.length c5,xs)]).length=j+1/\rr (us++[(Value.slice (some ⟨gb,0,none⟩) xs.length c5,xs)])=(rr rs).take (j+1)/\CpR w (.slice ca l.length cc) (.slice (some ⟨b,o,none⟩) rs.length rc) l ((us++[(Value.slice (some ⟨gb,0,none⟩) xs.length c5,xs)]).map (·.1)++(rs.map (·.1)).drop (j+1)) g (.slice ca' l.length cc') (.slice (some ⟨rb,0,none⟩) rs.length rc') (w5.setCell ⟨rb,j,none⟩ (.slice (some ⟨gb,0,none⟩) xs.length c5))):=by
       refine⟨by simp[HJ.out.1],?_,?_⟩
       ·rw[kZ,xM HGT.out.1,<-HJ.out.2.1]
        simp[rr]
       ·rw[<-hset]
        exact hR5.setR HGT.out.2 h2 _
      have HN6:Hid (∀ rb',some (⟨rb,0,none⟩:Addr)=some ⟨rb',0,none⟩->uH (w5.setCell ⟨rb,j,none⟩ (.slice (some ⟨gb,0,none⟩) xs.length c5)) w.heap.size rb' (us++[(Value.slice (some ⟨gb,0,none⟩) xs.length c5,xs)])):=by
       rintro rb' h3;cases h3;intro u hu;rcases zY.1 hu with hu|hu
       ·exact hN5.set _ u hu
       ·simp at hu
        subst hu;have hws:=HJ.out.2.2.s.b.size;exact⟨gb,c5,rfl,hc5,by omega,by omega,fun k x hk=>(hx5 k x hk).oth (.inl (by omega)) _⟩
      clear kI hR5 hC5 hN5 hx5 y0 y2 y3 hX7 hset hcl;go_wp2
      go_roundw
      ·exact⟨j+1,us++[(.slice (some ⟨gb,0,none⟩) xs.length c5,xs)],by go_num,h2,HR6,HN6⟩
      ·simp[intOf];omega
     ·obtain rfl:j=rs.length:=by omega
      have hul:=HJ.out.1;have hrr:=HJ.out.2.1;have hR9:=HJ.out.2.2;rw[fV (by rw[aF];exact vQ _)] at hrr;rw[bH (by simp),xD] at hR9;rw[<-hul] at hR9;have HR9:Hid (CpR w (.slice ca l.length cc) (.slice ra us.length rc) l (us.map (·.1)) g (.slice ca' l.length cc') (.slice ra' us.length rc') wr):=hR9;obtain⟨g0,g1,_,_,_⟩:=id hR9.t;obtain⟨e0,e1,f0,f1,hel⟩:=id hR9.s.r;have HE:Hid (rr us=rr rs/\us.length=rs.length):=⟨hrr,hul⟩;rw[hul] at g1;clear hul hrr hR9;go_wp2;have hG:wr.grownBy ((wr.setCell ⟨w.heap.size+1,0,none⟩ (.slice ca' l.length cc')).setCell ⟨w.heap.size+1,1,none⟩ (.slice ra' rs.length rc')) (some (w.heap.size+1)):=sQ (sQ (dX _ (some (w.heap.size+1))) _ _) _ _;have hbF:Below w.heap.size w ((wr.setCell ⟨w.heap.size+1,0,none⟩ (.slice ca' l.length cc')).setCell ⟨w.heap.size+1,1,none⟩ (.slice ra' rs.length rc')):=bs (bs HR9.out.s.b (by simp) _) (by simp) _;have hT:TwoB ((wr.setCell ⟨w.heap.size+1,0,none⟩ (.slice ca' l.length cc')).setCell ⟨w.heap.size+1,1,none⟩ (.slice ra' rs.length rc')) (w.heap.size+1) (.slice ca' l.length cc') (.slice ra' rs.length rc'):=HR9.out.s.r.put _ _;refine yQ (v:=.agg #[.slice ca' l.length cc',.slice ra' rs.length rc']) ?_ rfl ⟨_,_,rfl,hbF,?_⟩
      ·simp[results,results45,go_sem,hT.c0,hT.c1]
      ·have hlo:∀ x,some x=some (w.heap.size+1)->w.heap.size+2<=x->False:=fun x h1 h2=>by simp at h1;omega
       rw[<-HE.out.1];refine dnZ (gZ HR9.out.c hG (fun x hx e=>hlo x e.symm (yZ HR9.out.c hx).1)) (gZ (by have h:=HR9.out.r;rw[nY,HE.out.2] at h;rw[HE.out.2];exact h) hG (fun x hx e=>hlo x e.symm ?_)) HE.out.2 ⟨hc1,hc6⟩ (by rw[HE.out.2];exact hrl) (fun u hu=>?_) HNM.out (fun rb hrb u hu=>?_) rfl
       ·have h:=HR9.out.r
        rw[HE.out.2] at h;exact(yZ h hx).1
       ·exact(HRO.out u.2 (by rw[<-HE.out.1];exact tZ.2 ⟨u,hu,rfl⟩)).len
       ·obtain⟨gb,c,k1,k2,k3,k4,k5⟩:=HU.out rb hrb u hu
        have h:=HR9.out.r;rw[HE.out.2] at h;have k6:=yZ h (g:=rb) (by rw[hrb];rfl);exact⟨gb,c,k1,k2,k3,k4,fun k x hk=>((k5 k x hk).oth (.inl (by omega)) _).oth (.inl (by omega)) _⟩
theorem kX.lt {w:World}{M:Nat->Prop}{bh bd:Nat}{l:List jQ}{ts:List (List Int)}{done:List En}(hh:kX w M bh bd l ts done):kX w (fun k=>M k/\k<w.heap.size) bh bd l ts done:=by
 obtain⟨cv,rv,bk,bm,n,v,D,h,B,N,q⟩:=hh;refine⟨cv,rv,bk,bm,n,v,D,h,B,N,q.hc,q.bo,q.tb,q.nn,q.hB,q.ap,fun k hk=>⟨q.mm k hk,?_⟩⟩;rcases hk with rfl|d|d
 ·exact q.hc.c0.lt
 ·exact(q.nn k d).2.1
 ·have:=q.hB.2;omega
def auJ (bd:Nat) (l:List jQ) (ts:List (List Int)) (dn:List En) (er:Int) (w:World):Ending->World->Prop:=fun e w' =>
 Below w.heap.size w w'/\((er≠0/\e=.returned (.tuple #[.pointer none,.int .i64 er]))\/(er=0/\∃ bh,e=.returned (.tuple #[.pointer (some ⟨bh,0,none⟩),.int .i64 0])/\kX w' (fun k=>w.heap.size<=k/\k<w'.heap.size) bh bd l ts dn))
theorem doX (B bd bw:Nat)(cv rv:Value)(l:List jQ)(rs:List Rw)(a:Option Addr)(c:Nat)(disk:List Int)(left:Int)(w:World)(hB:B<=w.heap.size)(hp:eQ w B cv l)(hq:iQ w B rv rs)(hd:DskM w bd bw a c disk left)(hbw:bw<w.heap.size)(h64:sJ disk)(er:Int)(hr:fZ l (rr rs)=er) :
  Calls prog 25 #[.agg #[cv,rv],.iface 85 (.pointer (some ⟨bd,0,none⟩))] w (auJ bd l (rr rs) (kV disk) er w):=by
 have HP:Hid (eQ w B cv l):=hp;have HQ:Hid (iQ w B rv rs):=hq;have HD:Hid (DskM w bd bw a c disk left):=hd;have H64:Hid (sJ disk):=h64;have HR:Hid (fZ l (rr rs)=er):=hr;have hbd:bd<w.heap.size:=hd.c0.lt;obtain⟨ca,cc,rfl,_⟩:=hp.slice;obtain⟨ra,rc,rfl,_⟩:=hq.slice;obtain⟨W,hW⟩:∃ W,w.alloc (.cells #[.slice ca l.length cc,.slice ra rs.length rc] 25)=W:=⟨_,rfl⟩;have HWb:Hid (Below w.heap.size w W):=hW▸ba _ _;have TW:TwoB W w.heap.size (.slice ca l.length cc) (.slice ra rs.length rc):=hW▸TwoB.new _ _ _ 25 _ rfl;have kw:=K.fI B (.slice ca l.length cc) (.slice ra rs.length rc) l rs W (uQ hB HWb.out.size) (hp.at hB HWb.out) (hq.at hB HWb.out) er hr;obtain⟨t0,t1,_,_,_⟩:=id TW;have HT:Hid (TwoB W w.heap.size (.slice ca l.length cc) (.slice ra rs.length rc)):=TW;clear hp hq hd h64 hr TW;go_enter func25,ntmps25;go_wp2_with fail;clear hW;refine kw.mono ?_;rintro x w1 ⟨rfl,hb1⟩;have B1:Below w.heap.size w w1:=bt HWb.out hb1;by_cases h0:er=0
 ·subst h0
  obtain⟨t0,t1,_,_,_⟩:=HT.out.below hb1;have hs1:=B1.size;have kc:=doQ B (.slice ca l.length cc) (.slice ra rs.length rc) l rs w1 (uQ hB B1.size) (HP.out.at hB B1) (HQ.out.at hB B1) HR.out;have HB1:Hid (Below w.heap.size w w1):=B1;clear kw;go_wp2_with fail;refine kc.mono ?_;rintro x w2 ⟨cv',rv',rfl,hb2,hT2⟩;have hs2:=hb2.size;have kn:=jP (fun k=>w2.heap.size<=k) w2 (fun k hk=>hk);have HT2:Hid (pG w2 w1.heap.size w2.heap.size cv' rv' l (rr rs)):=hT2
  obtain⟨⟨cx,cy,rfl⟩,⟨rx,ry,rz,rfl⟩⟩:(∃ a c,cv' = .slice a l.length c)/\(∃ a n c,rv' = .slice a n c):=by
   obtain⟨rs',_,h⟩:=hT2;obtain⟨⟨a,c,h1,_⟩,⟨a2,c2,h2,_⟩⟩:=h w2 ⟨vQ _,fun _ _ _=>rfl⟩;exact⟨⟨a,c,h1⟩,⟨a2,_,c2,h2⟩⟩
  clear kc hT2;go_wp2_with fail;refine kn.mono ?_;rintro x w3 ⟨rfl,hb3,hs3,hB3⟩;have HB3:Hid (BookM w3 (fun k=>w2.heap.size<=k) (w2.heap.size+1) w2.heap.size 0 (.slice none 0 0) (.map []) []):=hB3;have B3:Below w.heap.size w w3:=bt (bt HB1.out hb2) hb3;have hs3':=hb3.size;obtain⟨X,hX⟩:∃ X,w3.alloc (.cells #[.slice cx l.length cy,.slice rx ry rz,.pointer (some ⟨w2.heap.size+1,0,none⟩),.iface 85 (.pointer (some ⟨bd,0,none⟩)),.int .i64 0,.bool false] 136)=X:=⟨_,rfl⟩;have hbX:Below w3.heap.size w3 X:=hX▸ba _ _;have hXs:X.heap.size=w3.heap.size+1:=by rw[<-hX];simp
  have hC:HouC X w3.heap.size bd (.slice cx l.length cy) (.slice rx ry rz) (w2.heap.size+1) ((([]:List En).length:Nat):Int) false:=by
   rw[<-hX];exact⟨Cl.new _ 136 0 _ rfl rfl,Cl.new _ 136 1 _ rfl rfl,Cl.new _ 136 2 _ rfl rfl,Cl.new _ 136 3 _ rfl rfl,Cl.new _ 136 4 _ rfl rfl,Cl.new _ 136 5 _ rfl rfl⟩
  have hH:kX X (fun k=>w.heap.size<=k) w3.heap.size bd l (rr rs) []:=by
   refine⟨_,_,_,_,0,_,_,w1.heap.size,w2.heap.size,(fun k=>w2.heap.size<=k/\k<w3.heap.size),hC,((HB3.out.mono (fun k hk h=>⟨h,hk⟩)).keep hbX),(HT2.out.kp (K:=fun _=>False) (oQ hb3) (vQ _) (fun _ _ _ h=>h)).kp (K:=fun _=>False) (oQ hbX) hs3' (fun _ _ _ h=>h),fun k hk=>⟨hk.1,by omega,by omega⟩,⟨hs2,by omega⟩,.inr hs3',fun k hk=>?_⟩;rcases hk with rfl|d|d <;> omega
  have HBX:Hid (Below w.heap.size w X):=bt B3 hbX;have kr:=dkZ w.heap.size w3.heap.size bd bw a c l (rr rs) disk left X hH (HD.out.at HBX.out) ⟨hbd,hbw⟩ HBX.out.size H64.out;clear kn hB3 B3 hbX hC hH hXs hs3;go_wp2_with fail;clear hX;refine kr.mono ?_;rintro x w4 ⟨rfl,hb4,hH4⟩;have HF:Hid (auJ bd l (rr rs) (kV disk) 0 w (.returned (.tuple #[.pointer (some ⟨w3.heap.size,0,none⟩),.int .i64 0])) w4):=⟨HBX.out.trans hb4,.inr ⟨rfl,_,rfl,hH4.lt⟩⟩;clear kr;go_wp2;exact yQ (v:=.tuple #[.pointer (some ⟨w3.heap.size,0,none⟩),.int .i64 0]) (by simp[results,results25,go_sem]) rfl HF.out
 ·have h01:(er == 0)=false:=by simpa using h0
  have h02:(er != 0)=true:=by simpa using h0
  clear kw;go_wp2;exact yQ (v:=.tuple #[.pointer none,.int .i64 er]) (by simp[results,results25,go_sem]) rfl ⟨B1,.inl ⟨h0,rfl⟩⟩
theorem doZ (M:Nat->Prop)(bh bd bw:Nat)(a:Option Addr)(c:Nat)(l:List jQ)(ts:List (List Int))(disk:List Int)(left:Int)(done:List En)(nm:ByteArray)(u d:Int)(w:World)(hh:kX w M bh bd l ts done)(hd:DskM w bd bw a c disk left)(hM:¬ M bd/\¬ M bw)(hbw:bw<w.heap.size)(hl:-9223372036854775808<=left/\left<=9223372036854775807)(hs:nm.size<=9223372036854775807)(s':HSt)(er:Int)(hr:xZ ⟨disk,left,true,false,done⟩ (1,nm,0,u,d)=(s',er)) :
  Calls prog 26 #[.pointer (some ⟨bh,0,none⟩),.string nm,.agg #[.int .i64 u,.int .i64 d]] w (xG M bh bd bw a c l ts s' er w):=by
 have hbW:Below w.heap.size w (w.alloc (.cells #[.int .i64 u,.int .i64 d] 32)):=ba _ _;have k:=atJ M bh bd bw a c l ts disk left done (1,nm,0,u,d) (w.alloc (.cells #[.int .i64 u,.int .i64 d] 32)) (hh.kp (K:=fun _=>False) (oQ hbW) (fun _ _ h=>h)) (hd.at hbW) hM (by simp;omega) hl hs (by simp only;omega) rfl s' er hr;obtain⟨cv,rv,bk,bm,n,v,D,h,B,N,q⟩:=hh;have m5:=(q.hc.at hbW).c5.c;clear q hd;go_enter func26,ntmps26;go_wp2_with fail;refine k.mono ?_;rintro x w' ⟨rfl,h1,h2,h3,h4⟩;have HF:Hid (xG M bh bd bw a c l ts s' er w (.returned (.int .i64 er)) w'):=⟨rfl,(oQ hbW).trans h1,h2,fun hb=>(h3 hb).mono (fun k hk=>hk.imp id (fun hk=>⟨by have:=hk.1;simp at this;omega,hk.2⟩)),h4⟩;clear k h1 h2 h3 h4;go_wp2;go_ret;exact HF.out
theorem doJ (bh:Nat)(nm:ByteArray)(u d:Int)(w:World)(h:Cl w bh 5 (.bool true)):Calls prog 26 #[.pointer (some ⟨bh,0,none⟩),.string nm,.agg #[.int .i64 u,.int .i64 d]] w fun e w'=>e=.returned (.int .i64 9)/\Below w.heap.size w w':=by
 have m5:=(h.at (ba w (.cells #[.int .i64 u,.int .i64 d] 32))).c;go_enter func26,ntmps26;go_wp2;go_ret;exact⟨rfl,ba _ _⟩
theorem dpQ (M:Nat->Prop)(bh bd:Nat)(l:List jQ)(ts:List (List Int))(done:List En)(w:World)(hh:kX w M bh bd l ts done) :
  Calls prog 28 #[.pointer (some ⟨bh,0,none⟩)] w fun e w'=>∃ r,e=.returned (.tuple #[r,.int .i64 0])/\w'.ownsRow w.heap.size 53 5 r done.length (enc done)/\Below w.heap.size w w':=by
 obtain⟨cv,rv,bk,bm,n,v,D,h,B,N,q⟩:=hh;have k:=dcX N bk bm n v D done w q.bo;have m5:=q.hc.c5.c;have m2:=q.hc.c2.c;clear q;go_enter func28,ntmps28;go_wp2_with fail;refine k.mono ?_;rintro x w' ⟨r,rfl,h1,h2⟩;obtain⟨a,c,rfl⟩:=aY h1;have H1:Hid (w'.ownsRow w.heap.size 53 5 (.slice a done.length c) done.length (enc done)):=h1;clear k h1;go_wp2;exact yQ (v:=.tuple #[.slice a done.length c,.int .i64 0]) (by simp[results,results28,go_sem]) rfl ⟨_,rfl,H1.out,h2⟩
theorem dpX (bh:Nat)(w:World)(h:Cl w bh 5 (.bool true)):Calls prog 28 #[.pointer (some ⟨bh,0,none⟩)] w fun e w'=>e=.returned (.tuple #[.slice none 0 0,.int .i64 9])/\w' = w:=by
 have m5:=h.c;go_enter func28,ntmps28;go_wp2;exact yQ (v:=.tuple #[.slice none 0 0,.int .i64 9]) (by simp[results,results28,go_sem]) rfl ⟨rfl,rfl⟩
