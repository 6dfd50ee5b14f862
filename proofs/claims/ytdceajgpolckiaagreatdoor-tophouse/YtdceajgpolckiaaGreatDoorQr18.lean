import Derived.Test.YtdceajgpolckiaaGreatDoorQr12
open Go.Proofs.Tryz
set_option linter.unusedSimpArgs false
set_option maxHeartbeats 16000000
set_option maxRecDepth 100000
namespace Go.Proofs.YtdceajgpolckiaaGreatDoor
variable {W w w' wr:World} {B b c i n:Nat} {u v:Value} {a:Option Addr} {x y:List Int} {A A' M g j k:Int} {t:TypeId}
section
open Go.RowKit Ds
theorem e9J (B:Nat)(v:Value)(ts:List Tr)(w:World)(hB:B<=w.heap.size)(hp:dQ w B v ts)(l:List Pt)(er:Int)(hr:pX (rd ts)=(l,er)) :
  Calls prog 117 #[v,.bool true] w fun e w'=>∃ v' us,e=.returned (.tuple #[v',.int .i64 er])/\rd us=l/\oX w' w.heap.size v' us/\Below w.heap.size w w':=by
 have kc:=cR B v ts w hB hp l er hr;obtain⟨a,c,rfl,_⟩:=hp;clear hr;go_enter func117,ntmps117;go_wp2_with fail;refine kc.mono ?_;rintro e w1 ⟨v1,us,rfl,h1,h2,h3⟩;obtain⟨b1,d1,rfl⟩:=h2.slice;have H2:Hid (oX w1 w.heap.size (.slice b1 us.length d1) us/\rd us=l):=⟨h2,h1⟩;clear h1 h2 kc;by_cases h0:er=0
 ·subst h0
  go_wp2;exact uQ (v:=.tuple #[.slice b1 us.length d1,.int .i64 0]) (by simp[results,results117,go_sem]) rfl ⟨_,us,rfl,H2.out.2,H2.out.1,h3⟩
 ·have h0':(er == 0)=false:=by simpa using h0
  go_wp2;exact uQ (v:=.tuple #[.slice b1 us.length d1,.int .i64 er]) (by simp[results,results117,go_sem]) rfl ⟨_,us,rfl,H2.out.2,H2.out.1,h3⟩
abbrev Vl:=Value × List Int
def vL (w:World) (B:Nat) (v:Value) (zs:List Vl):Prop :=
 ∃ a c,v=.slice a zs.length c/\zs.length<=c/\zs.length<=4294967296/\(∀ z∈zs,jQ w B B z.1 z.2) /\
  (zs≠[]->∃ b o,a=some ⟨b,o,none⟩/\b<B/\∀ i z,zs[i]? = some z->w.cell? ⟨b,o+i,none⟩=some z.1)
theorem vL.keep {zs:List Vl}(h:vL w B v zs)(hb:Below B w w'):vL w' B v zs:=by
 obtain⟨a,c,hv,hc,hl,hi,hx⟩:=h;refine⟨a,c,hv,hc,hl,fun t ht=>(hi t ht).keep hb,fun hne=>?_⟩;obtain⟨b,o,ha,hB,hcell⟩:=hx hne;exact⟨b,o,ha,hB,fun i z hz=>(hb.cell (p:=⟨b,o+i,none⟩) hB).trans (hcell i z hz)⟩
theorem vL.get {zs:List Vl}(hp:vL w B (.slice a n c) zs)(hB:B<=w.heap.size)(hbl:Below w.heap.size w wr)(h:i<zs.length) :
  ∃ b o sa sc xs,a=some ⟨b,o,none⟩/\b<w.heap.size/\zs[i]? = some (.slice sa xs.length sc,xs)/\wr.cell? ⟨b,o+i,none⟩=some (.slice sa xs.length sc)/\jQ wr B B (.slice sa xs.length sc) xs:=by
 obtain⟨a',c',hv,hc,hl,hi,hx⟩:=hp;simp only[gZ] at hv;obtain⟨rfl,rfl,rfl⟩:=hv;obtain⟨b,o,ha,hb,hcell⟩:=hx (ne_of_lt h);obtain⟨⟨s,xs⟩,hs⟩:=cX h;have hI:=hi _ (qX hs);have hI2:=hI.at hB hbl;obtain⟨sa,sc,he,_⟩:=hI;simp only at he;subst he;exact⟨b,o,sa,sc,xs,ha,by omega,hs,(hbl.cell (p:=⟨b,o+i,none⟩) (by show b<w.heap.size;omega)).trans (hcell i _ hs),hI2⟩
def qK (x y:List Int) (i:Nat):Prop:=x.take i=y.take i
theorem qK.step {a:Int}(h:qK x y i)(hx:x[i]? = some a)(hy:y[i]? = some a):qK x y (i+1):=by
 rw[qK,fZ,fZ,hx,hy,show x.take i=y.take i from h]
theorem qK.all (h:qK x y x.length)(hl:x.length=y.length):x=y:=by
 have:=h;rw[qK,zF,hl,zF] at this;exact this
theorem faQ (B n1 n2:Nat)(u v:Value)(x y:List Int)(w:World)(hx:jQ w B n1 u x)(hy:jQ w B n2 v y)(r:Bool)(hr:decide (x=y)=r) :
  Calls prog 119 #[u,v] w fun e w'=>e=.returned (.bool r)/\∃ q,w' = w.drewN q:=by
 obtain⟨ax,cx,rfl,hcx,hlx,hxx⟩:=hx;obtain⟨ay,cy,rfl,hcy,hly,hyy⟩:=hy;have HX:=qQ hxx;have HY:=qQ hyy;have HR:=qQ hr;clear hxx hyy hr;by_cases hl:x.length=y.length
 ·obtain⟨n,hn⟩:∃ n,y.length=n:=⟨_,rfl⟩
  have HL:Hid (x.length=n/\y.length=n):=⟨by omega,hn⟩;have hn1:n<=1073741824:=by omega
  rw[hl,hn];clear hl hn hcx hcy;go_enter func119,ntmps119;go_wp2
  go_loopw [5,13] (fun _ s wr=>∃ i:Nat,s=.int .i64 (i:Int)/\i<=n/\Hid (qK x y i)/\∃ q,wr=w.drewN q) (fun _ s _=>n - (intOf s).toNat)
  case atStart=>exact⟨0,rfl,kQ _,by simp[Hid,qK],0,rfl⟩
  case round =>
   obtain⟨i,rfl,hix,HC,q,rfl⟩:=hrel;by_cases h1:i<n
   ·have h1x:i<x.length:=by have:=HL.out.1;omega
    have h1y:i<y.length:=by have:=HL.out.2;omega
    obtain⟨bx,ox,rfl,hbx,hnx,hcx⟩:=HX.out (ne_of_lt h1x);obtain⟨zx,hzx⟩:=cX h1x;have cx1:=hcx i zx hzx;obtain⟨by',oy,rfl,hby,hny,hcy⟩:=HY.out (ne_of_lt h1y);obtain⟨zy,hzy⟩:=cX h1y;have cy1:=hcy i zy hzy;have HZ:Hid (x[i]? = some zx/\y[i]? = some zy):=⟨hzx,hzy⟩;clear hcx hcy HX HY hzx hzy h1x h1y;by_cases c1:zx=zy
    ·subst c1
     go_wp2;go_quiet (fail);go_wp2
     go_roundw
     case rel=>exact⟨i+1,by go_num,h1,HC.out.step HZ.out.1 HZ.out.2,_,rfl⟩
     case measure=>simp[intOf];omega
    ·have c1':(zx == zy)=false:=by simpa using c1
     have c1'':(zx != zy)=true:=by simpa using c1
     have hf:r=false:=by
      rw[<-HR.out];refine rV fun e=>c1 ?_;have h2:=HZ.out.1;rw[e,HZ.out.2] at h2;simp at h2;exact h2.symm
     subst hf;go_wp2;go_quiet (fail);go_wp2;go_ret;exact⟨rfl,dr1 _ _ _⟩
   ·have hf:r=true:=by
     rw[<-HR.out];have h2:=HL.out;refine uG (qK.all ?_ (by omega));have:=HC.out;rwa [show i=x.length by omega] at this
    subst hf;go_wp2;go_ret;exact⟨rfl,_,rfl⟩
 ·have hf:r=false:=by
   rw[<-HR.out];exact rV fun e=>hl (by rw[e])
  subst hf;have hl':((x.length:Int) == (y.length:Int))=false:=by simp;omega
  have hl'':((x.length:Int) != (y.length:Int))=true:=by simp;omega
  go_enter func119,ntmps119;go_wp2;go_ret;exact⟨rfl,0,rfl⟩
def pA (g:Int) (ts:List Tr) (i:Nat):List Tr:=(ts.take i).map (fun t=>(t.1,t.2.1,t.2.2*g))++ts.drop i
def iQ (g:Int) (ts:List Tr):List Tr:=ts.map fun t=>(t.1,t.2.1,t.2.2*g)
def iV (g:Int) (l:List Pt):List Pt:=l.map fun p=>(p.1,p.2*g)
theorem faX (g:Int)(ts:List Tr)(i:Nat):(pA g ts i).length=ts.length:=by simp[pA];omega
theorem faZ (g:Int){ts:List Tr}(h:i<ts.length):(pA g ts i)[i]? = ts[i]?:=by
 have e:((ts.take i).map (fun t:Tr=>(t.1,t.2.1,t.2.2*g))).length=i:=by simp;omega
 rw[pA,jF (by omega),e];simp
theorem faJ (g:Int){ts:List Tr}{t:Tr}(h:ts[i]? = some t):(pA g ts i).set i (t.1,t.2.1,t.2.2*g)=pA g ts (i+1):=by
 have hi:=(cQ.1 h).1;have e:((ts.take i).map (fun t:Tr=>(t.1,t.2.1,t.2.2*g))).length=i:=by simp;omega
 have e2:ts.drop i=t::ts.drop (i+1):=by rw[lJ hi,(cQ.1 h).2]
 rw[pA,pA,sP _ _ (by omega),e,e2,fZ,h];simp
theorem fbQ (g:Int){ts:List Tr}(h:ts.length<=i):pA g ts i=iQ g ts:=by
 rw[pA,rJ h,fY h,fU];rfl
theorem fbX (g:Int)(ts:List Tr):pA g ts 0=ts:=by simp[pA]
theorem pC (g:Int)(ts:List Tr):(iQ g ts).length=ts.length:=by simp[iQ]
theorem byX (g:Int)(ts:List Tr):rd (iQ g ts)=iV g (rd ts):=by simp[iQ,rd,iV]
theorem iS {ts:List Tr}{t:Tr}(h:t∈iQ g ts):∃ u∈ts,t.1=u.1/\t.2.1=u.2.1:=by
 obtain⟨u,hu,rfl⟩:=tX.1 h;exact⟨u,hu,rfl,rfl⟩
theorem fbZ (h:w.grownBy w' (some b))(p:Addr)(hp:p.block=b)(v:Value):w.grownBy (w'.setCell p v) (some b) :=
 ⟨h.os,h.tape,h.output,by simpa [World.setCell] using h.size,fun k hk hne=>(jM _ _ _ _ (by intro e;exact hne (by rw[e,hp]))).trans (h.block k hk hne)⟩
theorem byZ (lo:Nat)(v:Value)(ts:List Tr)(g:Int)(w:World)(ho:oX w lo v ts)(hk:∀ t∈ts,0<=t.2.2*g/\t.2.2*g<=4611686018427387904)(us:List Tr)(hu:iQ g ts=us) :
  Calls prog 113 #[v,.int .i64 g] w fun e w'=>e=.returned v/\oX w' lo v us/\w.grownBy w' v.ownBlock:=by
 subst hu;rcases ho with⟨rfl,rfl⟩|⟨b,o,c,rfl,hc,hl,hlo,hrow,hI⟩
 ·go_enter func113,ntmps113
  go_wp2
  go_loopw [8] (fun u wr=>u=.int .i64 0/\wr=w) (fun _ _=>0)
  case atStart=>exact⟨rfl,rfl⟩
  case round =>
   obtain⟨rfl,rfl⟩:=hrel;go_wp2;go_ret;exact⟨rfl,.inl ⟨rfl,rfl⟩,gM _ _⟩
 ·have HH:Hid (Row w b o ts/\(∀ t∈ts,jQ w w.heap.size b t.1 t.2.1)/\∀ t∈ts,0<=t.2.2*g/\t.2.2*g<=4611686018427387904):=⟨hrow,hI,hk⟩
  have hbs:=hrow.lt;clear hrow hI hk;go_enter func113,ntmps113;go_wp2
  go_loopw [8] (fun u wq=>∃ j:Nat,u=.int .i64 (j:Int)/\j<=ts.length/\Hid (Row wq b o (pA g ts j))/\Hid (∀ t∈ts,jQ wq wq.heap.size b t.1 t.2.1)/\Hid (w.grownBy wq (some b))) (fun u _=>ts.length - (intOf u).toNat)
  case atStart=>exact⟨0,rfl,kQ _,by rw[fbX];exact HH.out.1,HH.out.2.1,gM _ _⟩
  case round =>
   obtain⟨j,rfl,hjt,HR2,HI2,HG⟩:=hrel;by_cases h2:j<ts.length
   ·obtain⟨⟨s,xs,k⟩,hs⟩:=cX h2
    have hs2:(pA g ts j)[j]? = some (s,xs,k):=by rw[faZ _ h2];exact hs
    obtain⟨c1,c2⟩:=HR2.out.cells j _ hs2;have c3:=HR2.out.thaw (j*2+1) (by rw[faX];omega);rw[<-vV] at c3;simp only at c1 c2;obtain⟨hk0,hk1⟩:=HH.out.2.2 _ (qX hs);simp only at hk0 hk1;have HS:=qQ hs;obtain⟨P,hP⟩:∃ P,k*g=P:=⟨_,rfl⟩;rw[hP] at hk0 hk1
    have HR3:Hid (Row (wr.setCell ⟨b,o+j*2+1,none⟩ (.int .i64 P)) b o (pA g ts (j+1))):=by
     have:=HR2.out.setW hs2 P;rwa [show(pA g ts j).set j (s,xs,P)=pA g ts (j+1) by rw[<-hP];exact faJ g hs] at this
    clear hs hs2;go_wp2
    go_roundw
    case rel=>exact⟨j+1,by go_num,h2,HR3,fun t ht=>by simpa using (HI2.out t ht).set rfl _,fbZ HG.out _ rfl _⟩
    case measure=>simp[intOf];omega
   ·have hown:Own wr lo (.slice (some ⟨b,o,none⟩) ts.length c) (iQ g ts):=by
     refine⟨b,o,c,by rw[pC],by rw[pC];exact hc,by rw[pC];exact hl,hlo,?_,fun t ht=>?_⟩
     ·rw[<-fbQ g (i:=j) (by omega)];exact HR2.out
     ·obtain⟨u,hu,e1,e2⟩:=iS ht
      rw[e1,e2];exact HI2.out u hu
    have HO:=qQ hown;clear hown HR2 HI2 HH;go_wp2;go_ret;exact⟨rfl,.inr HO.out,HG.out⟩
def jA (p:Pt × Pt):Pt:=(if p.1.2=0 then p.2.1 else p.1.1,p.1.2+p.2.2)
def qI (a b:List Pt):List Pt:=if 4096<a.length then a else (yV a b).map jA
theorem fbJ {a b:List Pt}(ra:cZ a)(rb:cZ b)(pa:jZ a)(pb:jZ b) :
  cZ ((yV a b).map jA)/\jZ ((yV a b).map jA)/\(∀ o,wt ((yV a b).map jA) o=wt a o+wt b o)/\tot ((yV a b).map jA)=tot a+tot b/\∀ p∈(yV a b).map jA,(∃ q∈a,q.1=p.1)\/∃ q∈b,q.1=p.1:=by
 induction a,b using yV.induct with
 | case1=>simp[yV,cZ,jZ]
 | case2 b bs ih =>
  obtain⟨h1,h2,h3,h4,h5⟩:=ih ra (gD rb) pa fun q hq=>pb q (by simp[hq]);have hb:=pb b (by simp);have e:jA (([],0),b)=b:=by simp[jA]
  rw[yV,xV,e];refine⟨iY.2 ⟨fun q hq=>?_,h1⟩,fun q hq=>?_,fun o=>?_,?_,fun q hq=>?_⟩
  ·rcases h5 q hq with⟨r,hr,he⟩|⟨r,hr,he⟩
   ·cases hr
   ·rw[<-he];exact(iY.1 rb).1 r hr
  ·rcases fX.1 hq with rfl|hq
   ·exact hb
   ·exact h2 q hq
  ·rw[eJ,h3,eJ];omega
  ·rw[iZ,h4,iZ];omega
  ·rcases fX.1 hq with rfl|hq
   ·exact .inr ⟨_,by simp,rfl⟩
   ·exact(h5 q hq).imp id fun⟨r,hr,he⟩=>⟨r,by simp[hr],he⟩
 | case3 a az ih =>
  obtain⟨h1,h2,h3,h4,h5⟩:=ih (gD ra) rb (fun q hq=>pa q (by simp[hq])) pb;have ha:=pa a (by simp);have e:jA (a,([],0))=a:=by simp[jA];rw[xQ (by omega)]
  rw[yV,xV,e];refine⟨iY.2 ⟨fun q hq=>?_,h1⟩,fun q hq=>?_,fun o=>?_,?_,fun q hq=>?_⟩
  ·rcases h5 q hq with⟨r,hr,he⟩|⟨r,hr,he⟩
   ·rw[<-he];exact(iY.1 ra).1 r hr
   ·cases hr
  ·rcases fX.1 hq with rfl|hq
   ·exact ha
   ·exact h2 q hq
  ·rw[eJ,h3,eJ];omega
  ·rw[iZ,h4,iZ];omega
  ·rcases fX.1 hq with rfl|hq
   ·exact .inl ⟨_,by simp,rfl⟩
   ·exact(h5 q hq).imp (fun⟨r,hr,he⟩=>⟨r,by simp[hr],he⟩) id
 | case4 a az b bs h ih =>
  obtain⟨h1,h2,h3,h4,h5⟩:=ih (gD ra) rb (fun q hq=>pa q (by simp[hq])) pb;have ha:=pa a (by simp);have e:jA (a,([],0))=a:=by simp[jA];rw[xQ (by omega)]
  rw[yV,zQ h,xV,e];refine⟨iY.2 ⟨fun q hq=>?_,h1⟩,fun q hq=>?_,fun o=>?_,?_,fun q hq=>?_⟩
  ·rcases h5 q hq with⟨r,hr,he⟩|⟨r,hr,he⟩
   ·rw[<-he];exact(iY.1 ra).1 r hr
   ·rw[<-he]
    rcases fX.1 hr with rfl|hr
    ·exact h
    ·exact cF h ((iY.1 rb).1 r hr)
  ·rcases fX.1 hq with rfl|hq
   ·exact ha
   ·exact h2 q hq
  ·rw[eJ,h3,eJ a az];omega
  ·rw[iZ,h4,iZ a az];omega
  ·rcases fX.1 hq with rfl|hq
   ·exact .inl ⟨_,by simp,rfl⟩
   ·exact(h5 q hq).imp (fun⟨r,hr,he⟩=>⟨r,by simp[hr],he⟩) id
 | case5 a az b bs hn h ih =>
  obtain⟨h1,h2,h3,h4,h5⟩:=ih ra (gD rb) pa (fun q hq=>pb q (by simp[hq]));have hb:=pb b (by simp);have hba:sJ b.1 a.1:=by unfold sJ;rw[bT];omega
  have e:jA (([],0),b)=b:=by simp[jA]
  rw[yV,xQ hn,zQ h,xV,e];refine⟨iY.2 ⟨fun q hq=>?_,h1⟩,fun q hq=>?_,fun o=>?_,?_,fun q hq=>?_⟩
  ·rcases h5 q hq with⟨r,hr,he⟩|⟨r,hr,he⟩
   ·rw[<-he]
    rcases fX.1 hr with rfl|hr
    ·exact hba
    ·exact cF hba ((iY.1 ra).1 r hr)
   ·rw[<-he];exact(iY.1 rb).1 r hr
  ·rcases fX.1 hq with rfl|hq
   ·exact hb
   ·exact h2 q hq
  ·rw[eJ,h3,eJ b bs];omega
  ·rw[iZ,h4,iZ b bs];omega
  ·rcases fX.1 hq with rfl|hq
   ·exact .inr ⟨_,by simp,rfl⟩
   ·exact(h5 q hq).imp id (fun⟨r,hr,he⟩=>⟨r,by simp[hr],he⟩)
 | case6 a az b bs hn h ih =>
  obtain⟨h1,h2,h3,h4,h5⟩:=ih (gD ra) (gD rb) (fun q hq=>pa q (by simp[hq])) (fun q hq=>pb q (by simp[hq]));have ha:=pa a (by simp);have hb:=pb b (by simp);have hab:a.1=b.1:=(dH _ _).1 (by omega);have e:jA (a,b)=(a.1,a.2+b.2):=by simp only[jA];rw[xQ (by omega)]
  rw[yV,xQ hn,xQ h,xV,e];refine⟨iY.2 ⟨fun q hq=>?_,h1⟩,fun q hq=>?_,fun o=>?_,?_,fun q hq=>?_⟩
  ·rcases h5 q hq with⟨r,hr,he⟩|⟨r,hr,he⟩
   ·rw[<-he];exact(iY.1 ra).1 r hr
   ·rw[<-he];simp only;rw[hab];exact(iY.1 rb).1 r hr
  ·rcases fX.1 hq with rfl|hq
   ·simp only;omega
   ·exact h2 q hq
  ·rw[eJ,h3,eJ a az,eJ b bs]
   simp only;by_cases ho:a.1=o
   ·rw[zQ ho,zQ ho,zQ (hab.symm.trans ho)];omega
   ·rw[xQ ho,xQ ho,xQ (fun k=>ho (hab.trans k))];omega
  ·rw[iZ,h4,iZ a az,iZ b bs];simp only;omega
  ·rcases fX.1 hq with rfl|hq
   ·exact .inl ⟨a,by simp,rfl⟩
   ·exact(h5 q hq).imp (fun⟨r,hr,he⟩=>⟨r,by simp[hr],he⟩) (fun⟨r,hr,he⟩=>⟨r,by simp[hr],he⟩)
theorem aiJ (g:Int)(l:List Pt)(o:List Int):wt (iV g l) o=wt l o*g:=by
 induction l with
 | nil=>simp[iV]
 | cons p l ih =>
  simp only[iV,xV] at *
  rw[eJ,eJ,ih,gP];simp only;split <;> simp
theorem byJ (g:Int)(l:List Pt):tot (iV g l)=tot l*g:=by
 induction l with
 | nil=>simp[iV]
 | cons p l ih =>
  simp only[iV,xV] at *
  rw[iZ,iZ,ih,gP]
theorem bzQ {l:List Pt}(h:cZ l):cZ (iV g l):=by
 unfold cZ iV;rw[qE];exact h
theorem bzX {l:List Pt}(hg:0<g)(h:jZ l):jZ (iV g l):=by
 intro p hp;obtain⟨q,hq,rfl⟩:=tX.1 hp;exact uL (h q hq) hg
theorem ajQ (g:Int)(l:List Pt):(iV g l).length=l.length:=by simp[iV]
def spr (N:List Int->List Pt) (A:Int) (l:List Pt):List Pt:=l.flatMap fun p=>(N p.1).map fun q=>(q.1,p.2*q.2*(A / tot (N p.1)))
theorem rC (n:List Pt)(k c:Int)(o:List Int):wt (n.map fun q=>(q.1,k*q.2*c)) o=wt n o*(k*c):=by
 induction n with
 | nil=>simp
 | cons p n ih =>
  simp only[xV];rw[eJ,eJ,ih,gP];simp only;split
  ·rw[show k*p.2*c=p.2*(k*c) by ac_rfl]
  ·simp
theorem fcQ (N:List Int->List Pt)(A:Int)(l:List Pt)(p:Pt):spr N A (l++[p])=spr N A l++(N p.1).map fun q=>(q.1,p.2*q.2*(A / tot (N p.1))):=by simp[spr]
theorem fcX (N:List Int->List Pt)(A:Int)(l:List Pt)(p:Pt)(o:List Int):wt (spr N A (l++[p])) o=wt (spr N A l) o+wt (N p.1) o*(p.2*(A / tot (N p.1))):=by
 rw[fcQ,fL,rC]
theorem ajX (N:List Int->List Pt)(A:Int)(l:List Pt)(p:Pt):spr N A (p::l)=((N p.1).map fun q=>(q.1,p.2*q.2*(A / tot (N p.1))))++spr N A l:=by simp[spr]
theorem fcZ (N:List Int->List Pt)(A g:Int){l:List Pt}(h:∀ p∈l,tot (N p.1) ∣ A)(o:List Int):wt (spr N (A*g) l) o=wt (spr N A l) o*g:=by
 induction l with
 | nil=>simp[spr]
 | cons p l ih =>
  rw[ajX,ajX,fL,fL,rC,rC,ih fun q hq=>h q (by simp[hq]),gP];have e:A*g / tot (N p.1)=A / tot (N p.1)*g:=Int.mul_ediv_assoc' g (h p (by simp));rw[e]
  have:wt (N p.1) o*(p.2*(A / tot (N p.1)*g))=wt (N p.1) o*(p.2*(A / tot (N p.1)))*g:=by ac_rfl
  rw[this]
theorem bzZ (N:List Int->List Pt)(A:Int){l:List Pt}(hl:Nn l)(hN:∀ p∈l,Nn (N p.1))(hA:0<=A):Nn (spr N A l):=by
 intro q hq;obtain⟨p,hp,hq⟩:=nN.1 hq;obtain⟨r,hr,rfl⟩:=tX.1 hq;exact iA (iA (hl p hp) (hN p hp r hr)) (eP hA ((hN p hp).tot_nn))
def rU (thn:List Int->List Pt × Int):Int->List Pt->Int × Int
 | A,[]=>(A,0)
 | A,p::l=>if (thn p.1).2=0 then
   (if 1073741824<A*(tot (thn p.1).1 / (Int.gcd A (tot (thn p.1).1):Int)) then (0,4) else rU thn (A*(tot (thn p.1).1 / (Int.gcd A (tot (thn p.1).1):Int))) l)
  else (0,(thn p.1).2)
def tF (thn:List Int->List Pt × Int) (l:List Pt):List Pt × Int :=
 if (rU thn 1 l).2=0 then (if 1073741824<(rU thn 1 l).1*tot l then ([],4) else bU (gath (spr (fun x=>(thn x).1) (rU thn 1 l).1 l))) else ([],(rU thn 1 l).2)
theorem fcJ {a b:List Pt}(ra:cZ a)(rb:cZ b)(h:∀ p∈a,∃ q∈b,q.1=p.1):a.length<=b.length:=by
 have key:∀ (l:List Pt) (f:List Int->Int),(∀ p∈l,f p.1=1)->tU f l=l.length:=by
  intro l f
  induction l with
  | nil=>intro _;rfl
  | cons p l ih=>intro hf;rw[tU,hf p (by simp),ih fun q hq=>hf q (by simp[hq]),pJ];omega
 have h1:=cvZ (f:=fun o=>if ∃ q∈b,q.1=o then 1 else 0) (fun o=>by split <;> omega) ra rb fun o ho=>xQ fun⟨q,hq,e⟩=>ho q hq e;rw[key a _ fun p hp=>zQ (h p hp),key b _ fun p hp=>zQ ⟨p,hp,rfl⟩] at h1;omega
structure Ch (thn:List Int->List Pt × Int) (l:List Pt) (i:Nat) (A:Int) (s:List Pt):Prop where
 rest:rU thn 1 l=rU thn A (l.drop i)
 sc:1<=A/\A<=1073741824
 dvd:∀ p∈l.take i,tot (thn p.1).1 ∣ A
 nn:∀ p∈l.take i,Nn (thn p.1).1
 rise:cZ s
 pos:jZ s
 le:∀ o,wt s o<=wt (spr (fun x=>(thn x).1) A (l.take i)) o
 eq:s.length<=4096->∀ o,wt s o=wt (spr (fun x=>(thn x).1) A (l.take i)) o
 tt:tot s<=A*tot (l.take i)
theorem Ch.nil (thn:List Int->List Pt × Int)(l:List Pt):Ch thn l 0 1 [] :=
 ⟨by simp,by omega,by simp,by simp,by simp[cZ],by simp[jZ],by simp[spr],by simp[spr],by simp⟩
theorem tot_take_le {l:List Pt}(h:Nn l)(i:Nat):tot (l.take i)<=tot l:=by
 have h1:tot l=tot (l.take i)+tot (l.drop i):=by rw[<-dK,fP]
 have h2:Nn (l.drop i):=fun p hp=>h p (zE hp);have:=h2.tot_nn;omega
theorem Ch.err {thn:List Int->List Pt × Int}{l:List Pt}{s:List Pt}{p:Pt}(h:Ch thn l i A s)(hp:l[i]? = some p)(he:(thn p.1).2≠0):tF thn l=([],(thn p.1).2):=by
 have e:rU thn 1 l=(0,(thn p.1).2):=by
  rw[h.rest,lJ (cQ.1 hp).1,(cQ.1 hp).2,rU,xQ he]
 unfold tF;rw[e,xQ he]
theorem Ch.much {thn:List Int->List Pt × Int}{l:List Pt}{s:List Pt}{p:Pt}(h:Ch thn l i A s)(hp:l[i]? = some p)(he:(thn p.1).2=0)(hm:1073741824<A*(tot (thn p.1).1 / (Int.gcd A (tot (thn p.1).1):Int))):tF thn l=([],4):=by
 have e:rU thn 1 l=(0,4):=by
  rw[h.rest,lJ (cQ.1 hp).1,(cQ.1 hp).2,rU,zQ he,zQ hm]
 unfold tF;rw[e];rfl
theorem Ch.step {thn:List Int->List Pt × Int}{l:List Pt}{s:List Pt}{n:List Pt}(h:Ch thn l i A s)(hl:jZ l)(hp:l[i]? = some (x,k))(ht:thn x=(n,0))(hn:Dis n)
  (hg:tot n / (Int.gcd A (tot n):Int)=g) (hA:A*g=A') (hm:A'<=1073741824):Ch thn l (i+1) A' (qI (iV g s) (iV (k*(A' / tot n)) n)):=by
 have tn:=uO hn.pos hn.ne;have hA1:=h.sc.1;have hgd:(Int.gcd A (tot n):Int) ∣ tot n:=Int.gcd_dvd_right _ _;have hgA:(Int.gcd A (tot n):Int) ∣ A:=Int.gcd_dvd_left _ _
 have hgp:0<(Int.gcd A (tot n):Int):=by
  have:0<Int.gcd A (tot n):=Int.gcd_pos_of_ne_zero_left _ (by omega);omega
 have hg0:0<g:=by rw[<-hg];exact jE tn (by omega) hgd
 have hdn:tot n ∣ A':=by
  obtain⟨c,hc⟩:=hgA;refine⟨c,?_⟩;have e2:(Int.gcd A (tot n):Int)*g=tot n:=by rw[<-hg];exact anQ hgd
  have e3:A*g=(Int.gcd A (tot n):Int)*c*g:=congrArg (· * g) hc;rw[<-hA,e3,Int.mul_right_comm,e2]
 have hA'1:1<=A':=by rw[<-hA];exact uL (by omega) hg0
 have hq0:0<A' / tot n:=jE (by omega) (by omega) hdn;have hk:0<k:=hl (x,k) (qX hp);have htake:l.take (i+1)=l.take i++[(x,k)]:=by rw[fZ,hp];rfl
 have hnx:(thn x).1=n:=by rw[ht]
 have hd':∀ p∈l.take i,tot (thn p.1).1 ∣ A':=fun p hp=>by rw[<-hA];exact Int.dvd_mul_of_dvd_left (h.dvd p hp)
 have hscale:∀ o,wt (spr (fun x=>(thn x).1) A' (l.take i)) o=wt (spr (fun x=>(thn x).1) A (l.take i)) o*g:=fun o=>by
  rw[<-hA];exact fcZ (fun x=>(thn x).1) A g h.dvd o
 have hw:∀ o,wt (spr (fun x=>(thn x).1) A' (l.take (i+1))) o=wt (spr (fun x=>(thn x).1) A (l.take i)) o*g+wt n o*(k*(A' / tot n)):=fun o=>by
  rw[htake,fcX,hscale];simp only[hnx]
 have hkq:0<k*(A' / tot n):=uL hk hq0;have rs:=bzQ (g:=g) h.rise;have ps:=bzX hg0 h.pos;have rn:=bzQ (g:=k*(A' / tot n)) hn.rise;have pn:=bzX hkq hn.pos
 have htt:tot (iV g s)<=A' * tot (l.take i):=by
  rw[byJ,<-hA];have:=vK h.tt (show 0<=g by omega);have e:A*tot (l.take i)*g=A*g*tot (l.take i):=by ac_rfl
  rw[e] at this;exact this
 have hnt:tot (iV (k*(A' / tot n)) n)=A' * k:=by
  rw[byJ];have e:tot n*(k*(A' / tot n))=tot n*(A' / tot n)*k:=by ac_rfl
  rw[e,anQ hdn]
 have htot:A' * tot (l.take (i+1))=A' * tot (l.take i)+A' * k:=by
  rw[htake,dK,iZ,aqQ,Int.mul_add];simp
 have nnw:∀ o,0<=wt n o*(k*(A' / tot n)):=fun o=>iA ((Nn.of_pos hn.pos).wt_le o).1 (by omega)
 have hrest:rU thn 1 l=rU thn A' (l.drop (i+1)):=by
  rw[h.rest,lJ (cQ.1 hp).1,(cQ.1 hp).2,rU];simp only[ht,aU];rw[hg,hA,xQ (by omega)]
 have hdvd:∀ p∈l.take (i+1),tot (thn p.1).1 ∣ A':=by
  rw[htake];intro p hp;rcases kV.1 hp with hp|hp
  ·exact hd' p hp
  ·simp at hp;subst hp;simp only[hnx];exact hdn
 have hnn:∀ p∈l.take (i+1),Nn (thn p.1).1:=by
  rw[htake];intro p hp;rcases kV.1 hp with hp|hp
  ·exact h.nn p hp
  ·simp at hp;subst hp;simp only[hnx];exact Nn.of_pos hn.pos
 by_cases hc:4096<s.length
 ·have hp1:qI (iV g s) (iV (k*(A' / tot n)) n)=iV g s:=by unfold qI;rw[zQ (by rw[ajQ];exact hc)]
  rw[hp1];refine⟨hrest,⟨hA'1,hm⟩,hdvd,hnn,rs,ps,fun o=>?_,fun hle=>?_,?_⟩
  ·rw[aiJ,hw]
   have h1:=vK (h.le o) (show 0<=g by omega);have h2:=nnw o;omega
  ·rw[ajQ] at hle;omega
  ·rw[htot]
   have:0<=A' * k:=iA (by omega) (by omega);omega
 ·have hp1:qI (iV g s) (iV (k*(A' / tot n)) n)=(yV (iV g s) (iV (k*(A' / tot n)) n)).map jA:=by unfold qI;rw[xQ (by rw[ajQ];exact hc)]
  rw[hp1];obtain⟨b1,b2,b3,b4,_⟩:=fbJ rs rn ps pn
  have hweq:∀ o,wt ((yV (iV g s) (iV (k*(A' / tot n)) n)).map jA) o=wt (spr (fun x=>(thn x).1) A' (l.take (i+1))) o:=fun o=>by
   rw[b3,aiJ,aiJ,hw,h.eq (by omega)]
  refine⟨hrest,⟨hA'1,hm⟩,hdvd,hnn,b1,b2,fun o=>by rw[hweq];exact aG _,fun _ o=>hweq o,?_⟩;rw[b4,htot,hnt];omega
theorem Ch.done {thn:List Int->List Pt × Int}{l:List Pt}{s:List Pt}(h:Ch thn l i A s)(hl:Nn l)(hi:l.length<=i):tF thn l=if 1073741824<A*tot l then ([],4) else bU s:=by
 have e:rU thn 1 l=(A,0):=by rw[h.rest,fY hi,rU]
 have ht:l.take i=l:=rJ hi;have hle:=h.le;have heq:=h.eq;have hnn:=h.nn;rw[ht] at hle heq hnn;unfold tF;rw[e];simp only[aU];by_cases hm:1073741824<A*tot l
 ·rw[zQ hm,zQ hm]
 ·rw[xQ hm,xQ hm]
  have hsn:Nn (spr (fun x=>(thn x).1) A l):=bzZ _ _ hl hnn (by have:=h.sc.1;omega);by_cases hc:s.length<=4096
  ·rw[tE hsn h.rise h.pos (heq hc)]
  ·have hsub:∀ p∈s,∃ q∈gath (spr (fun x=>(thn x).1) A l),q.1=p.1:=by
    intro p hp;refine cO ?_;rw[dT];have h1:=lR h.rise h.pos hp;have h2:=hle p.1;omega
   have hlen:=fcJ h.rise (vR _) hsub;have hs0:s≠[]:=by intro h0;rw[h0] at hc;simp at hc
   have hg0:gath (spr (fun x=>(thn x).1) A l)≠[]:=by intro h0;rw[h0] at hlen;simp at hlen;exact hs0 hlen
   unfold bU;rw[xQ hs0,xQ hg0,zQ (.inr (by omega)),zQ (.inr (by omega))]
end
section
open Go.RowKit Go.Shelf Ds
attribute [local go_sem] Oper.semAt_some
def bD (p:Tr × Tr):Tr:=(if p.1.2.2=0 then p.2.1 else p.1.1,if p.1.2.2=0 then p.2.2.1 else p.1.2.1,p.1.2.2+p.2.2.2)
def yL {w:World} {B:Nat} {M:Int} (pre:List (PP w B M)):List Tr:=pre.map fun x=>bD x.1
theorem bzJ (pre:List (PP w B M)):(yL pre).length=pre.length:=by simp[yL]
theorem b0Q (pre:List (PP w B M))(x:PP w B M):yL (pre++[x])=yL pre++[bD x.1]:=by simp[yL]
theorem fdQ (az bz:List Tr):(mrg az bz).length<=az.length+bz.length:=by
 induction az,bz using mrg.induct with
 | case1=>simp[mrg]
 | case2 b bs ih=>rw[mrg];simp at *;omega
 | case3 a az ih=>rw[mrg];simp at *;omega
 | case4 a az b bs h ih=>rw[wT h];simp at *;omega
 | case5 a az b bs h1 h2 ih=>rw[qB h2];simp at *;omega
 | case6 a az b bs h1 h2 ih=>rw[xB (by omega)];simp at *;omega
theorem fdX (h:Boxed W B t u)(k:Boxed W B t v):u=v:=by
 have:=(show W.heap[B]? = _ from h).symm.trans (show W.heap[B]? = _ from k);simpa using this
theorem b0X (W:World)(s:Value)(k:Int)(n:Nat)(hn:W.heap.size=n):∀ j u,[s,Value.int .i64 k][j]? = some u->(W.alloc (.cells #[s,.int .i64 k] 77)).cell? ((⟨n,0,none⟩:Addr).add j)=some u:=by
 subst hn;intro j u hj
 match j,hj with
 | 0,hj=>simp at hj;subst hj;simp[go_sem,Addr.add]
 | 1,hj=>simp at hj;subst hj;simp[go_sem,Addr.add]
theorem b0Z (a:Option Addr)(n c:Nat)(k:Int):∀ u∈[Value.slice a n c,Value.int .i64 k],u.oneCell' = true:=by
 intro u hu;simp at hu;rcases hu with rfl|rfl <;> rfl
theorem fdZ (a b:Value)(x y:List Int)(k:Int):bD ((a,x,0),(b,y,k))=(b,y,0+k):=by simp[bD]
theorem fdJ {a b:Value}(h:¬ j=0):bD ((a,x,j),(b,y,k))=(a,x,j+k):=by simp[bD,h]
theorem b0J (ds:List Tr)(t:Tr):flat (ds++[t])=flat ds++[t.1,.int .i64 t.2.2]:=by simp[flat]
theorem feQ (B:Nat)(u v:Value)(ts us:List Tr)(w:World)(hB:B<=w.heap.size)(hp:dQ w B u ts)(hq:dQ w B v us)(hl1:ts.length<=4096)(hl2:us.length<=4096)
  (hm1:∀ t∈ts,0<=t.2.2/\t.2.2<=(1152921504606846976:Int)) (hm2:∀ t∈us,0<=t.2.2/\t.2.2<=(1152921504606846976:Int)) (xs:List Tr) (hx:(mrg ts us).map bD=xs) :
  Calls prog 112 #[u,v] w fun e w'=>∃ v',e=.returned v'/\w'.ownsRow w.heap.size 77 2 v' xs.length (flat xs)/\(∀ t∈xs,jQ w' w.heap.size w.heap.size t.1 t.2.1)/\Below w.heap.size w w':=by
 have HP:=qQ hp;have HQ:=qQ hq;have HX:=qQ hx;have HM1:=qQ hm1;have HM2:=qQ hm2;obtain⟨a,c,rfl,_⟩:=hp;obtain⟨a',c',rfl,_⟩:=hq;obtain⟨i0,hi0,hz0,hz1,hz2⟩:=zV oM;obtain⟨w1,hmk,hown1,hgr1⟩:=run_make_own (P:=prog) w w.heap.size 61 77 i0 (.agg #[.slice none 0 0,.int .i64 0]) 2 underlying61 hi0 hz0 hz1 .i64 .i64 (ts.length+us.length) (by rw[hz2];omega) (by unfold maxLen;omega) (vQ _)
 have hmk':(Instr.makeSlice 61 (.int .i64 0) (.int .i64 ((ts.length:Int)+(us.length:Int)))).run prog w=.ok (.slice (some ⟨w.heap.size,0,none⟩) 0 (ts.length+us.length)) w1:=by
  rw[<-zT];exact hmk
 have hd:decide (4096<(ts.length:Int))=false:=rV (by omega);have hd':¬ 4096<(ts.length:Int):=by omega
 clear hx hm1 hm2 hmk;refine(aA (n:=5)).1 ?_;refine callsIn_of_wp_marks func112 rfl trivial ?_ rfl;simp only[ntmps112,eE,pJ,yG,Nat.reduceAdd,Nat.reduceSub,fE,gE,iE,kE,tN,qG];gi_wp2_with fail;refine⟨trivial,?_⟩;refine(csX _ _ _ _ _ _ _ _).mono ?_;rintro e w4 ⟨rfl,hw4⟩;gi_wp2_with fail;clear hw4;obtain⟨W0,hW0⟩:∃ W0,(((w1.alloc (Obj.cells #[Value.slice (some ⟨w.heap.size,0,none⟩) 0 (ts.length+us.length)] 61)).alloc (Obj.cells #[Value.slice a ts.length c] 61)).alloc (Obj.cells #[Value.slice a' us.length c'] 61))=W0:=⟨_,rfl⟩;have hs1:=hgr1.size;have hsz:W0.heap.size=w1.heap.size+3:=by rw[<-hW0];simp
 have gB:Boxed W0 w1.heap.size 61 (.slice (some ⟨w.heap.size,0,none⟩) 0 (ts.length+us.length)):=by rw[<-hW0];exact((jO w1 61 _).alloc _).alloc _
 have gR:W0.ownsRow w.heap.size 77 2 (.slice (some ⟨w.heap.size,0,none⟩) 0 (ts.length+us.length)) 0 []:=by rw[<-hW0];exact((hown1.alloc _).alloc _).alloc _
 have g4:W0.cell? ⟨w1.heap.size+1,0,none⟩=some (.slice a ts.length c):=by rw[<-hW0];simp[go_sem]
 have g5:W0.cell? ⟨w1.heap.size+1+1,0,none⟩=some (.slice a' us.length c'):=by rw[<-hW0];simp[go_sem]
 have hb0:Below w.heap.size w W0:=by
  rw[<-hW0];have h1:Below w.heap.size w w1:=(aQ _ _).grown hgr1 (vQ _) (by intro k e;cases e);exact bal (bal (bal h1 _) _) _
 have hX1:dQ W0 w.heap.size (.slice a ts.length c) ts:=(HP.out.at hB hb0).mono hB;have hX2:dQ W0 w.heap.size (.slice a' us.length c') us:=(HQ.out.at hB hb0).mono hB;rw[hW0];clear hW0 hown1
 refine wpIn_rangeFunc_ownH rfl (by decide) (gf:=201) (lb:=#[.pointer (some ⟨w1.heap.size+1,0,none⟩),.pointer (some ⟨w1.heap.size+1+1,0,none⟩)]) rfl trivial (enters_of func201 (by kernel_rfl) rfl)
  (csZ 4 (by decide) (w1.heap.size+1) (w1.heap.size+1+1) w.heap.size 1152921504606846976 (by decide) (.slice a ts.length c) (.slice a' us.length c') ts us W0 (by omega) (by omega) (by omega) g4 g5 hX1 hX2 HM1.out HM2.out) belowK_t (belowK_b (by omega)) (aQ _ _) (fun _=>rfl)
  (fun pre W=>(∃ v,Boxed W w1.heap.size 61 v/\W.ownsRow w.heap.size 77 2 v pre.length (flat (yL pre))/\True)/\Below w.heap.size W0 W)
  (fun _ _ _=>False)
  (OwnFrom.and (Own.from (holdsRow_own w.heap.size w1.heap.size 61 77 2 (fun pre=>pre.length) (fun pre=>flat (yL pre)) (fun _ _=>True)) _) (ownFrom_below (by omega) (by omega)))
  (fun _ _ _ _ _ hs _ _=>hs)
  ⟨⟨_,gB,gR,trivial⟩,aQ _ _⟩
  (fun x act W=>∃ Bx v0,W0.heap.size<=Bx/\tM W Bx x/\Boxed W w1.heap.size 61 v0/\v0.ownBlock≠some Bx/\act={ tmps:=#[.slice a ts.length c,.slice a' us.length c',undef,undef,.slice none 0 0,.pointer (some ⟨w1.heap.size,0,none⟩),.pointer (some ⟨Bx,0,none⟩),.pointer (some ⟨Bx+1,0,none⟩),.slice a ts.length c,.int .i64 (ts.length:Int),.bool false,undef,.slice a ts.length c,.int .i64 (ts.length:Int),.slice a' us.length c',.int .i64 (us.length:Int),.int .i64 ((ts.length:Int)+(us.length:Int)),.slice (some ⟨w.heap.size,0,none⟩) 0 (ts.length+us.length),.slice a ts.length c,.slice a' us.length c',.func (.func 201) #[] #[.pointer (some ⟨w1.heap.size+1,0,none⟩),.pointer (some ⟨w1.heap.size+1+1,0,none⟩)],.agg #[x.1.1.1,.int .i64 x.1.1.2.2],.agg #[x.1.2.1,.int .i64 x.1.2.2.2],undef,undef,undef,undef,undef,undef,undef,undef,undef,undef,undef,undef,undef,undef,undef,undef,undef,undef],defers:=[] })
  (fun x act _ X Y row hs hg hr=>by obtain⟨Bx,v0,h1,h2,h4,h5,h3⟩:=hs;exact⟨Bx,v0,h1,h2.own hg (fun r e=>(hr r e).2),h4.kept hg (fun e=>by obtain⟨_,o,ho,hc⟩:=hr _ e.symm;rw[show X.heap[w1.heap.size]? = _ from h4] at ho;cases ho;cases hc),h5,h3⟩)
  ?assign ?body ?done ?stop
 case assign =>
  rintro l pre x W K ⟨⟨v,hv,hrow,_⟩,hB1⟩ hK;have hs:=hB1.size;have hlt:∀ g,v.ownBlock=some g->g<W.heap.size:=fun g e=>(hrow.lt g e).2;obtain⟨⟨⟨xv,xo,xk⟩,⟨yv,yo,yk⟩⟩,hx⟩:=x;obtain⟨sa,sc,e1,_⟩:=hx.1;obtain⟨sa',sc',e2,_⟩:=hx.2.1;simp only at e1 e2;subst e1 e2;simp only[oL];gi_wp2;exact hK _ _ (((KeepsOthers.alloc _ _).trans (KeepsOthers.alloc _ _)).from _) (((aQ _ W).alloc (by omega) _).alloc (by simp;omega) _) ⟨⟨v,(hv.alloc _).alloc _,(hrow.alloc _).alloc _,trivial⟩,(hB1.alloc (by omega) _).alloc (by simp;omega) _⟩ ⟨W.heap.size,v,hs,ctQ W ⟨((.slice sa xo.length sc,xo,xk),(.slice sa' yo.length sc',yo,yk)),hx⟩,(hv.alloc _).alloc _,(fun e=>Nat.lt_irrefl _ (hlt _ e)),rfl⟩
 case body =>
  rintro l pre x act W hl ⟨r,hr⟩ ⟨⟨v,hv,hrow,_⟩,hB1⟩ ⟨Bx,v0,hBx,bX,hv0,hne0,rfl⟩ hlt;obtain rfl:=fdX hv hv0;obtain⟨k1,k2,k3,k4⟩:=bX.cells;have k5:W.frozen? ⟨Bx,0,none⟩=false:=by simp[World.frozen?,bX.1]
  have hs:=hB1.size;have hbxl:Bx<W.heap.size:=(yJ.1 bX.1).1;have hc:=hv.cell;have hneb:¬ w1.heap.size=Bx:=by omega
  obtain⟨⟨⟨xv,xo,xk⟩,⟨yv,yo,yk⟩⟩,hx⟩:=x;obtain⟨sa,sc,e1,_⟩:=hx.1;obtain⟨sa',sc',e2,_⟩:=hx.2.1;have hxx:=hx.2.2;simp only at e1 e2 k1 k2 k3 k4 hxx;obtain⟨⟨hx1,hx2⟩,⟨hy1,hy2⟩⟩:=hxx;subst e1 e2;obtain⟨va,vc,rfl⟩:=eF hrow;clear bX hv0;by_cases hz:xk=0
  ·subst hz
   obtain⟨W1,hW1⟩:∃ W1,W.setCell ⟨Bx,0,none⟩ (.slice sa' yo.length sc')=W1:=⟨_,rfl⟩;have r1:W1.cell? ⟨Bx,0,none⟩=some (.slice sa' yo.length sc'):=by rw[<-hW1];exact tZ k1
   have r2:W1.cell? ⟨Bx,1,none⟩=some (.int .i64 0):=by rw[<-hW1];exact(gQ (by simp)).trans k2
   have r3:W1.cell? ⟨Bx+1,1,none⟩=some (.int .i64 yk):=by rw[<-hW1];exact(gQ (by simp)).trans k4
   have hvS:Boxed W1 w1.heap.size 61 (.slice va pre.length vc):=by rw[<-hW1];exact hv.kept (mE W Bx _) (by simp;omega)
   have hrowS:W1.ownsRow w.heap.size 77 2 (.slice va pre.length vc) pre.length (flat (yL pre)):=by rw[<-hW1];exact hrow.kept (mE W Bx _) (.inr hne0)
   have hkS:KeepsOthers W W1:=hW1▸KeepsOthers.setCell _ _ _;have hbS:Below w.heap.size W W1:=by rw[<-hW1];exact(aQ _ W).setCell (p:=⟨Bx,0,none⟩) (by show w.heap.size<=Bx;omega) _
   have hsS:W1.heap.size=W.heap.size:=by rw[<-hW1];simp
   have hcS:=hvS.cell;clear hv hrow hc;gi_wp2_with (gi_at_builtin;refine wpListIn_append_own _ rfl _ _ 61 rfl w.heap.size 77 i0 (.agg #[.slice none 0 0,.int .i64 0]) 2 32 underlying61 hi0 hz0 hz1 hz2 rfl (by decide) _ _ _ rfl (hrowS.alloc _) ⟨W.heap.size,0,none⟩ 1 1 [.slice sa' yo.length sc',.int .i64 yk] rfl rfl (b0X W1 _ _ _ hsS) (b0Z _ _ _ _) (by unfold maxLen;omega) (by omega) (by simp;omega) ?_;intro v' w5 hown' hgrow _;obtain⟨g',cap',rfl⟩:=ownsRow_succ hown';obtain⟨hv1,hv2,hr2,hk2,hb2⟩:=hvS.appended (by decide) hrowS (by omega) (by omega) hown' hgrow;have hc1:=hv1.cell;have hf1:=hv1.frozen);refine⟨(hkS.trans hk2).from _,hbS.trans hb2,⟨⟨_,hv2,?_⟩,(hB1.trans hbS).trans hb2⟩⟩;rw[b0Q,b0J,fdZ];simpa using hr2
  ·have hz':(xk == 0)=false:=by simpa using hz
   have hk0:0<=xk+yk/\xk+yk<=4611686018427387904:=by omega
   gi_wp2_with (gi_at_builtin;refine wpListIn_append_own _ rfl _ _ 61 rfl w.heap.size 77 i0 (.agg #[.slice none 0 0,.int .i64 0]) 2 32 underlying61 hi0 hz0 hz1 hz2 rfl (by decide) _ _ _ rfl (hrow.alloc _) ⟨W.heap.size,0,none⟩ 1 1 [.slice sa xo.length sc,.int .i64 (xk+yk)] rfl rfl (b0X W _ _ _ rfl) (b0Z _ _ _ _) (by unfold maxLen;omega) (by omega) (by simp;omega) ?_;intro v' w5 hown' hgrow _;obtain⟨g',cap',rfl⟩:=ownsRow_succ hown';obtain⟨hv1,hv2,hr2,hk2,hb2⟩:=hv.appended (by decide) hrow (by omega) (by omega) hown' hgrow;have hc1:=hv1.cell;have hf1:=hv1.frozen);refine⟨hk2.from _,hb2,⟨⟨_,hv2,?_⟩,hB1.trans hb2⟩⟩;rw[b0Q,b0J,fdJ hz];simpa using hr2
 case done =>
  rintro D ys W hD hS ⟨⟨v,hv,hrow,_⟩,hB1⟩ hK;have hc:=hv.cell;have hpx:yL ys=xs:=by rw[<-HX.out,<-hS,List.map_map];rfl
  have hlx:ys.length=xs.length:=by rw[<-hpx,bzJ]
  have hI:∀ t∈xs,jQ W0 w.heap.size w.heap.size t.1 t.2.1:=by
   rw[<-hpx];intro t ht;obtain⟨x,_,rfl⟩:=tX.1 ht;unfold bD;split
   ·exact x.2.2.1
   ·exact x.2.1
  obtain⟨va,vc,rfl⟩:=eF hrow;have HI:=qQ hI;have HRW:Hid (W.ownsRow w.heap.size 77 2 (.slice va ys.length vc) xs.length (flat xs)):=by rw[Hid,<-hpx,bzJ];exact hrow
  have HK:=qQ hK;clear hI hpx hlx hrow hS;gi_wp2;refine⟨by simp,.inl ⟨_,_,rfl,run_takeDeferred HK.out,?_⟩⟩;have hbD:=belowK_b (w:=w) (vQ _) W D _ (.deferred none) (by omega) HK.out rfl rfl;exact⟨_,results_tmp rfl _ _ _,_,rfl,ownsRow_putObj HRW.out _ HK.out rfl,fun t ht=>(HI.out t ht).keep (hB1.trans hbD),(hb0.trans hB1).trans hbD⟩
 case stop =>
  rintro D c pre W _ _ h _;exact h.elim
