import Derived.Test.YtcaplmodgbpchaaGreatDoorQq10
import Derived.BigRegion
open Go.Proofs.Tryz
open Go.Value(int)
open Go.IntKind(i64)
set_option linter.unusedSimpArgs false
set_option maxHeartbeats 16000000
set_option maxRecDepth 100000
namespace Go.Proofs.YtcaplmodgbpchaaGreatDoor
variable {b w w':World} {s v:Value} {B E M N R c i lo' nb t:Nat} {T g k node u:Int} {l o xs:List Int} {r:Option Nat} {a:Option Addr} {p:Addr}
section
open Go.RowKit Ds
def uV (w:World) (lo:Nat) (v:Value) (ts:List Tr):Prop:=(v=.slice none 0 0/\ts=[])\/Own w lo v ts
theorem uV.parts {lo:Nat}{ts:List Tr}(h:uV w lo v ts):uX w w.heap.size v ts:=by
 rcases h with⟨rfl,rfl⟩|h
 ·exact yH _ _
 ·exact h.parts
theorem uV.keep {lo:Nat}{ts:List Tr}(h:uV w lo v ts)(a:xQ w w'):uV w' lo v ts:=by
 rcases h with h|h
 ·exact .inl h
 ·exact .inr (h.keep a)
theorem uV.mono {lo:Nat}{ts:List Tr}(h:uV w lo v ts)(a:lo'<=lo):uV w lo' v ts:=by
 rcases h with h|h
 ·exact .inl h
 ·exact .inr (h.mono a)
theorem uV.slice {lo:Nat}{ts:List Tr}(h:uV w lo v ts):∃ a c,v=.slice a ts.length c:=by
 rcases h with⟨rfl,rfl⟩|⟨b,o,c,h,_⟩
 ·exact⟨_,_,rfl⟩
 ·exact⟨_,_,h⟩
theorem dlQ (g:Nat)(l:List Pt)(p:Pt):zG g (l++[p])=Nat.gcd (zG g l) p.2.natAbs:=by
 induction l generalizing g with
 | nil=>rfl
 | cons q l ih=>simp only[xF,zG,ih]
theorem bfX {l:List Pt}{p:Pt}(h:l[i]? = some p):zG 0 (l.take (i+1))=Nat.gcd (zG 0 (l.take i)) p.2.natAbs:=by
 rw[rX,h];exact dlQ _ _ _
theorem dlX {l:List Pt}(h:∀ p∈l,p.2.natAbs<=M)(g:tJ l):zG 0 l<=M:=by
 rw[fE,Nat.gcd_zero_left];cases l with
 | nil=>simp[dv]
 | cons p l =>
  have a:=h p (by simp);have i:=g p (by simp);exact bQ (Nat.le_of_dvd (by omega) (gE (l:=p::l) (by simp))) a
def jV (g:Int) (ts:List Tr) (i:Nat):List Tr:=(ts.take i).map (fun t=>(t.1,t.2.1,t.2.2 / g))++ts.drop i
theorem dL (g:Int)(ts:List Tr)(i:Nat):(jV g ts i).length=ts.length:=by simp[jV];omega
theorem bfZ (g:Int){ts:List Tr}(h:i<ts.length):(jV g ts i)[i]? = ts[i]?:=by
 have e:((ts.take i).map (fun t:Tr=>(t.1,t.2.1,t.2.2 / g))).length=i:=by simp;omega
 rw[jV,mH (by omega),e];simp
theorem bfJ (g:Int){ts:List Tr}{t:Tr}(h:ts[i]? = some t):(jV g ts i).set i (t.1,t.2.1,t.2.2 / g)=jV g ts (i+1):=by
 have hi:=(fQ.1 h).1;have e:((ts.take i).map (fun t:Tr=>(t.1,t.2.1,t.2.2 / g))).length=i:=by simp;omega
 have e2:ts.drop i=t::ts.drop (i+1):=by rw[eV hi,(fQ.1 h).2]
 rw[jV,jV,xS _ _ (by omega),e,e2,rX,h];simp
theorem bgQ (g:Int)(ts:List Tr):rd (jV g ts ts.length)=cut g (rd ts):=by simp[jV,rd,cut]
theorem bgX (g:Int)(ts:List Tr):jV g ts 0=ts:=by simp[jV]
theorem wT {ts:List Tr}{t:Tr}(h:t∈jV g ts i):∃ u∈ts,t.1=u.1/\t.2.1=u.2.1:=by
 rcases aV.1 h with h|h
 ·obtain⟨u,a,rfl⟩:=iJ.1 h;exact⟨u,pG a,rfl,rfl⟩
 ·exact⟨t,amZ h,rfl,rfl⟩
theorem tJ.take {l:List Pt}(h:tJ l)(i:Nat):tJ (l.take i):=fun p hp=>h p (pG hp)
theorem dlZ (lo:Nat)(v:Value)(ts:List Tr)(w:World)(ho:Own w lo v ts)(M:tJ (rd ts))(hM:tot (rd ts)<=4611686018427387904)(l:List Pt)(er:Int)(hr:mU (rd ts)=(l,er)) :
  Calls prog 207 #[v] w fun e w'=>∃ v' us,e=.returned (.tuple #[v',int i64 er])/\rd us=l/\uV w' lo v' us/\Below lo w w'/\∀ t∈us,∃ u∈ts,t.1=u.1/\t.2.1=u.2.1:=by
 obtain⟨b,o,c,rfl,hc,hl,aj,z,hI⟩:=ho;have y:Hid (Row w b o ts/\(∀ t∈ts,yQ w w.heap.size b t.1 t.2.1)/\tJ (rd ts)/\tot (rd ts)<=4611686018427387904/\mU (rd ts)=(l,er)):=⟨z,hI,M,hM,hr⟩;have ah:=z.lt;clear z hI M hM hr;by_cases h0:ts=[]
 ·subst h0
  have E:=y.out.2.2.2.2;obtain⟨rfl,rfl⟩:l=[]/\er=6:=by simp[mU,rd] at E;exact⟨E.1,E.2.symm⟩
  clear E y;go_enter func207,ntmps207;go_wp2;exact eQ (v:=.tuple #[.slice none 0 0,int i64 6]) (by simp[results,results207,go_sem]) rfl ⟨_,[],rfl,rfl,.inl ⟨rfl,rfl⟩,uQ _ _,fun t D=>by cases D⟩
 have C:0<ts.length:=by cases ts with|nil=>exact absurd rfl h0|cons _ _=>simp
 have bn:((ts.length:Int) == 0)=false:=by simp;exact h0
 clear h0;go_enter func207,ntmps207;go_wp2
 go_loopw [4,13] (fun s u wr=>∃ (i g:Nat),s=int i64 (g:Int)/\u=int i64 (i:Int)/\i<=ts.length/\zG 0 ((rd ts).take i)=g/\xQ w wr) (fun _ u _=>ts.length - (intOf u).toNat)
 case atStart=>exact⟨0,0,rfl,rfl,dQ _,by simp[zG],uQ _ _⟩
 case round =>
  obtain⟨i,g,rfl,rfl,bc,hg,G⟩:=hrel;have HG:=qQ hg
  have bb:g<=4611686018427387904:=by
   rw[<-hg];refine dlX (fun p M=>?_) (tJ.take y.out.2.2.1 i);have E:=tJ.le_tot (Nn.of_pos y.out.2.2.1) (pG M);have h2:=y.out.2.2.1 p (pG M);have h3:=y.out.2.2.2.1;omega
  clear hg;by_cases E:i<ts.length
  ·obtain⟨⟨s,xs,k⟩,L⟩:=fX E
   obtain⟨sa,sc,he,_⟩:=y.out.2.1 _ (qX L);simp only at he;subst he;obtain⟨c1,c2⟩:=y.out.1.cells.get G ah L;simp only at c1 c2;have HZ:=qQ (yV L);have P:0<k:=y.out.2.2.1 (xs,k) (qX HZ.out)
   have V:k<=4611686018427387904:=by
    have E:=tJ.le_tot (Nn.of_pos y.out.2.2.1) (qX HZ.out);have h3:=y.out.2.2.2.1;simp only at E;omega
   obtain⟨m,rfl⟩:=nY (sL P);have Z:=fun W=>jT g m (by omega) (by omega) W;have HN:Hid (zG 0 ((rd ts).take (i+1))=Nat.gcd g m):=by rw[Hid,bfX HZ.out,HG.out];rfl
   clear L;go_wp2_with (go_at_call 175;refine(Z _).mono ?_;rintro e w1 ⟨rfl,A⟩)
   go_roundw
   case rel=>exact⟨i+1,Nat.gcd g m,rfl,by go_num,E,HN.out,bt (bal G _) A⟩
   case measure=>simp[intOf];omega
  ·have O:g=dv (rd ts):=by rw[<-HG.out,vD (by omega),fE,Nat.gcd_zero_left]
   have HD:=qQ O;have b8:0<g:=by rw[O];exact lE y.out.2.2.1 (by intro h;rw[<-yY,h] at C;simp at C)
   have HR:=qQ (y.out.1.keep G);have HI:Hid (∀ t∈ts,yQ wr wr.heap.size b t.1 t.2.1):=fun t D=>(y.out.2.1 t D).at2 G;clear O HG;go_wp2
   go_loopw [24] (fun u wq=>∃ j:Nat,u=int i64 (j:Int)/\j<=ts.length/\Row wq b o (jV g ts j)/\(∀ t∈ts,yQ wq wq.heap.size b t.1 t.2.1)/\Below lo w wq) (fun u _=>ts.length - (intOf u).toNat)
   case atStart=>exact⟨0,rfl,dQ _,by rw[bgX];exact HR.out,HI.out,G.mono (by omega)⟩
   case round =>
    obtain⟨j,rfl,bg,z,H,B⟩:=hrel;have F:=qQ z;have N:=qQ H;clear z H;by_cases h2:j<ts.length
    ·obtain⟨⟨s,xs,k⟩,L⟩:=fX h2
     have Q:(jV g ts j)[j]? = some (s,xs,k):=by rw[bfZ _ h2];exact L
     obtain⟨c1,c2⟩:=F.out.cells j _ Q;have c3:=F.out.thaw (j*2+1) (by rw[dL];omega);rw[<-cU] at c3;simp only at c1 c2;have P:0<k:=y.out.2.2.1 (xs,k) (qX (yV L))
     have V:k<=4611686018427387904:=by
      have E:=tJ.le_tot (Nn.of_pos y.out.2.2.1) (qX (yV L));have h3:=y.out.2.2.2.1;simp only at E;omega
     obtain⟨m,rfl⟩:=nY (sL P);have b6:((m:Int) / (g:Int))<=4611686018427387904:=fK (qN _ (by omega)) V;have aq:0<=((m:Int) / (g:Int)):=wM (by omega) (by omega)
     have af:Hid (Row (wr.setCell ⟨b,o+j*2+1,none⟩ (int i64 ((m:Int) / (g:Int)))) b o (jV g ts (j+1))):=by
      have:=F.out.setW Q ((m:Int) / (g:Int));rwa [show(jV g ts j).set j (s,xs,(m:Int) / (g:Int))=jV g ts (j+1) from bfJ g L] at this
     clear L Q;go_wp2
     go_roundw
     case rel=>exact⟨j+1,by go_num,h2,af.out,fun t D=>by simpa using (N.out t D).set rfl _,B.setCell (by simp;omega) _⟩
     case measure=>simp[intOf];omega
    ·have hj:j=ts.length:=by omega
     subst hj;have hcut:rd (jV g ts ts.length)=cut (dv (rd ts)) (rd ts):=by rw[bgQ,HD.out]
     have R:∀ t∈jV g ts ts.length,yQ wr wr.heap.size b t.1 t.2.1:=by
      intro t D;obtain⟨u,hu,e1,e2⟩:=wT D;rw[e1,e2];exact N.out u hu
     have J:Own wr lo (.slice (some ⟨b,o,none⟩) ts.length c) (jV g ts ts.length):=⟨b,o,c,by rw[dL],by rw[dL];exact hc,by rw[dL];exact hl,aj,F.out,R⟩;have HO:=qQ J
     have Y:Nn (rd (jV g ts ts.length)):=by
      rw[hcut];intro p M;obtain⟨q,hq,rfl⟩:=iJ.1 M;exact wM (sL (y.out.2.2.1 q hq)) (by omega)
     obtain⟨T,S⟩:∃ T,tot (cut (dv (rd ts)) (rd ts))=T:=⟨_,rfl⟩
     have U:T<=4611686018427387904:=by
      rw[<-S,avJ fun p M=>zT M];exact fK (qN _ (Nn.of_pos y.out.2.2.1).tot_nn) y.out.2.2.2.1
     have Z:=b7 wr.heap.size (.slice (some ⟨b,o,none⟩) ts.length c) (jV g ts ts.length) wr (vQ _) J.parts Y (by rw[hcut,S];exact U) T (by rw[hcut,S]);have I:=y.out.2.2.2.2;have X:rd ts≠[]:=by intro h;rw[<-yY,h] at C;simp at C
     rw[mU,zQ X,S,yY] at I;have HL:=qQ I;have a9:=qQ hcut;clear I hcut R J Y X S F N;by_cases hm:1073741824<T
     ·have a:=HL.out
      rw[jQ (.inl hm)] at a;simp only[cQ] at a;obtain⟨rfl,rfl⟩:=a;go_wp2_with (go_at_call 228;refine Z.mono ?_;rintro e w1 ⟨rfl,A⟩);exact eQ (v:=.tuple #[.slice none 0 0,int i64 4]) (by simp[results,results207,go_sem]) rfl ⟨_,[],rfl,rfl,.inl ⟨rfl,rfl⟩,B.trans (A.mono (by have:=B.size;omega)),fun t D=>by cases D⟩
     ·by_cases ak:4096<ts.length
      ·have a:=HL.out
       rw[jQ (.inr ak)] at a;simp only[cQ] at a;obtain⟨rfl,rfl⟩:=a;go_wp2_with (go_at_call 228;refine Z.mono ?_;rintro e w1 ⟨rfl,A⟩);exact eQ (v:=.tuple #[.slice none 0 0,int i64 4]) (by simp[results,results207,go_sem]) rfl ⟨_,[],rfl,rfl,.inl ⟨rfl,rfl⟩,B.trans (A.mono (by have:=B.size;omega)),fun t D=>by cases D⟩
      ·have a:=HL.out
       rw[zQ (by intro h;rcases h with h|h <;> omega)] at a;simp only[cQ] at a;obtain⟨a,rfl⟩:=a;have ae:=qQ a;clear a;go_wp2_with (go_at_call 228;refine Z.mono ?_;rintro e w1 ⟨rfl,A⟩);exact eQ (v:=.tuple #[.slice (some ⟨b,o,none⟩) ts.length c,int i64 0]) (by simp[results,results207,go_sem]) rfl ⟨_,jV g ts ts.length,rfl,a9.out.trans ae.out,.inr (HO.out.keep A),B.trans (A.mono (by have:=B.size;omega)),fun t D=>wT D⟩
theorem rP {l:List Pt}(h:l.all gV=true):Nn l/\∀ p∈l,p.2<=1073741824:=by
 have g:∀ p∈l,0<=p.2/\p.2<=1073741824:=by
  intro p a;have:=aN.1 h p a;simp[gV] at this;exact this.1
 exact⟨fun p a=>(g p a).1,fun p a=>(g p a).2⟩
theorem bgZ {l:List Pt}(h:l.all gV=true)(g:l.length<=1073741824):tot l<=4611686018427387904:=by
 have a:=clZ (rP h).2;omega
theorem n8 (B:Nat)(v:Value)(ts:List Tr)(w:World)(hB:B<=w.heap.size)(N:uX w B v ts)(l:List Pt)(er:Int)(o:iV (rd ts)=(l,er)) :
  Calls prog 181 #[v] w fun e w'=>∃ v' C,e=.returned (.tuple #[v',int i64 er])/\rd C=l/\uV w' w.heap.size v' C/\xQ w w'/\dZ w.heap.size C:=by
 have H:=qQ N;obtain⟨a,c,rfl,hc,R,_⟩:=N;cases hok:(rd ts).all gV with
 | false =>
  rw[iV,hok] at o;simp only[Bool.false_eq_true,gK,cQ] at o;obtain⟨rfl,rfl⟩:=o;have E:=beZ B _ ts w hB H.out _ hok;clear hok;go_enter func181,ntmps181;go_wp2_with (go_at_call 205;refine E.mono ?_;rintro e P ⟨rfl,g⟩);exact eQ (v:=.tuple #[.slice none 0 0,int i64 3]) (by simp[results,results181,go_sem]) rfl ⟨_,[],rfl,rfl,.inl ⟨rfl,rfl⟩,g,dZ.nil _⟩
 | true =>
  rw[iV,hok] at o;simp only[uA] at o;have E:=beZ B _ ts w hB H.out _ hok;have M:=bgZ hok (by rw[yY];exact R);have y:Hid (mU (gath (rd ts))=(l,er)/\Nn (rd ts)/\tot (rd ts)<=4611686018427387904):=⟨o,(rP hok).1,M⟩;clear hok o M;go_enter func181,ntmps181;go_wp2_with (go_at_call 205;refine E.mono ?_;rintro e P ⟨rfl,g⟩);refine(dkJ B _ ts P (bQ hB g.size) (H.out.at hB g) y.out.2.1 y.out.2.2 _ rfl).mono ?_;rintro e Q ⟨v2,C,rfl,A,h,z,i⟩;have L:xQ w Q:=bt g z;have p:=qQ (i.mono g.size);have O:=dlZ w.heap.size v2 C Q (A.mono g.size) (by rw[h];exact xT y.out.2.1) (by rw[h,mE];exact y.out.2.2) l er (by rw[h];exact y.out.1);obtain⟨b',T,S,rfl,_⟩:=A;clear E z i;go_wp2_with fail;refine O.mono ?_;rintro e U ⟨v3,D,rfl,j,m,J,k⟩;obtain⟨a3,c3,rfl⟩:=m.slice;have G:=qQ m;have I:=qQ j;have F:=qQ (p.out.of k);clear m j h O k;go_wp2;exact eQ (v:=.tuple #[.slice a3 D.length c3,int i64 er]) (by simp[results,results181,go_sem]) rfl ⟨_,D,rfl,I.out,G.out,L.trans J,F.out⟩
theorem bgJ {α:Type}{l k:List α}{x:α}(h:l.take i=k.take i)(g:l[i]? = some x)(a:k[i]? = some x):l.take (i+1)=k.take (i+1):=by
 rw[rX,rX,h,g,a]
theorem bhQ (B:Nat)(u v:Value)(ts p:List Tr)(w:World)(hB:B<=w.heap.size)(U:uX w B u ts)(V:uX w B v p)(r:Bool)(X:decide (rd ts=rd p)=r) :
  Calls prog 185 #[u,v,.func (.func 186) #[] #[]] w (iQ w (.bool r)):=by
 have HP:=qQ U;have HQ:=qQ V;have M:=qQ X;obtain⟨a,c,rfl,hc,hl,_⟩:=U;obtain⟨a2,c2,rfl,aa,ae,_⟩:=V;clear X;by_cases g:ts.length=p.length
 ·have O:(((ts.length:Int)) == (p.length:Int))=true:=by simp[g]
  have G:(((ts.length:Int)) != (p.length:Int))=false:=by simp[g]
  have y:=qQ g;clear g;go_enter func185,ntmps185;go_wp2
  go_loopw [17] (fun s wr=>∃ i:Nat,s=int i64 (i:Int)/\i<=ts.length/\(rd ts).take i=(rd p).take i/\xQ w wr) (fun s _=>ts.length - (intOf s).toNat)
  case atStart=>exact⟨0,rfl,dQ _,by simp,uQ _ _⟩
  case round =>
   obtain⟨i,rfl,ac,I,j⟩:=hrel;have R:=qQ I;clear I;by_cases S:i<ts.length
   ·obtain⟨b,o,sa,sc,C,k,rfl,hb,Y,c1,a8,T⟩:=HP.out.get hB j S
    obtain⟨b2,o2,ag,ah,l,L,rfl,a9,H,d1,d2,F⟩:=HQ.out.get hB j (i:=i) (by have:=y.out;omega);have Q:=qQ (yV Y);have E:=qQ (yV H);have P:=qQ T;have D:=qQ F;have af:=j.size;have z1:(i:Int)<(p.length:Int):=by have:=y.out;omega
    have n2:b2<wr.heap.size:=by omega
    clear Y H T F;by_cases A:k=L/\C=l
    ·have N:Hid (decide (k=L/\C=l)=true):=sJ A
     have Z:Hid ((l,L)=(C,k)):=by rw[Hid,A.1,A.2]
     clear A;go_wp2_with (go_at_call 186;refine(awX B B B _ _ _ _ C l _ ?_ ?_ ?_ _ N.out).mono ?_;(simp;omega);(exact P.out.at (by omega) (bal (ba _ _) _));(exact D.out.at (by omega) (bal (ba _ _) _));rintro e w1 ⟨rfl,z⟩)
     go_roundw
     case rel=>exact⟨i+1,by go_num,S,bgJ R.out Q.out (by rw[E.out,Z.out]),bt (bal (bal j _) _) z⟩
     case measure=>simp[intOf];omega
    ·have N:Hid (decide (k=L/\C=l)=false):=lZ A
     have m:r=false:=by
      rw[<-M.out];refine lZ fun h=>A ?_;have J:=Q.out;rw[h,E.out] at J;simp only[aZ,cQ] at J;exact⟨J.2.symm,J.1.symm⟩
     subst m;clear A;go_wp2_with (go_at_call 186;refine(awX B B B _ _ _ _ C l _ ?_ ?_ ?_ _ N.out).mono ?_;(simp;omega);(exact P.out.at (by omega) (bal (ba _ _) _));(exact D.out.at (by omega) (bal (ba _ _) _));rintro e w1 ⟨rfl,z⟩);go_ret;exact⟨rfl,bt (bal (bal j _) _) z⟩
   ·have m:r=true:=by
     rw[<-M.out];refine sJ ?_;have:=R.out;rwa [vD (by omega),vD (by have:=y.out;omega)] at this
    subst m;go_wp2;go_ret;exact⟨rfl,j⟩
 ·have O:(((ts.length:Int)) == (p.length:Int))=false:=by simp;omega
  have G:(((ts.length:Int)) != (p.length:Int))=true:=by simp;omega
  have m:r=false:=by
   rw[<-M.out];refine lZ fun h=>g ?_;rw[<-yY,h,yY]
  subst m;go_enter func185,ntmps185;go_wp2;go_ret;exact⟨rfl,uQ _ _⟩
def fU (l:List Pt):List Pt × Int:=if (iV l).2=0 then if (iV l).1=l then (l,0) else ([],2) else ([],(iV l).2)
theorem dlJ (l:List Pt):(mU l).2=0\/(mU l).1=[]:=by
 unfold mU;split
 ·exact .inr rfl
 ·split
  ·exact .inr rfl
  ·exact .inl rfl
theorem dmQ (l:List Pt):(iV l).2=0\/(iV l).1=[]:=by
 unfold iV;split
 ·exact dlJ _
 ·exact .inr rfl
theorem dmX (B:Nat)(v:Value)(ts:List Tr)(w:World)(hB:B<=w.heap.size)(Q:uX w B v ts)(l:List Pt)(er:Int)(L:fU (rd ts)=(l,er)) :
  Calls prog 158 #[v] w fun e w'=>∃ v' i,e=.returned (.tuple #[v',int i64 er])/\rd i=l/\uV w' w.heap.size v' i/\xQ w w'/\dZ w.heap.size i:=by
 have O:=qQ Q;obtain⟨a,c,rfl,hc,U,_⟩:=Q;obtain⟨⟨m,e1⟩,J⟩:∃ m,iV (rd ts)=m:=⟨_,rfl⟩;have R:=n8 B _ ts w hB O.out m e1 J;have p:=dmQ (rd ts);rw[fU,J] at L;rw[J] at p;simp only at L p;have H:Hid ((if e1=0 then if m=rd ts then (rd ts,0) else ([],2) else ([],e1))=(l,er)/\(e1=0\/m=[])):=⟨L,p⟩;clear L p J;go_enter func158,ntmps158;go_wp2_with fail;refine R.mono ?_;rintro e z ⟨v1,i,rfl,D,N,j,C⟩;have A:=qQ C;clear C;have G:=qQ N;have F:=qQ D;obtain⟨a1,c1,rfl⟩:=N.slice;clear N D R;by_cases I:e1=0
 ·subst I
  have k:uX z z.heap.size (.slice a ts.length c) ts:=(O.out.at hB j).mono (bQ hB j.size);by_cases y:m=rd ts
  ·have g:=H.out.1
   rw[jQ rfl,jQ y] at g;simp only[cQ] at g;obtain⟨g,rfl⟩:=g;have M:Hid (rd i=l):=by rw[Hid,F.out,y,g]
   have E:=bhQ z.heap.size _ _ ts i z (vQ _) k G.out.parts true (sJ (by rw[F.out,y]));clear y g k;go_wp2_with fail;refine E.mono ?_;rintro e T ⟨rfl,o⟩;clear E;go_wp2;exact eQ (v:=.tuple #[.slice a1 i.length c1,int i64 0]) (by simp[results,results158,go_sem]) rfl ⟨_,i,rfl,M.out,G.out.keep o,bt j o,A.out⟩
  ·have g:=H.out.1
   rw[jQ rfl,zQ y] at g;simp only[cQ] at g;obtain⟨rfl,rfl⟩:=g;have E:=bhQ z.heap.size _ _ ts i z (vQ _) k G.out.parts false (lZ (by rw[F.out];exact fun h=>y h.symm));clear y k;go_wp2_with fail;refine E.mono ?_;rintro e T ⟨rfl,o⟩;clear E;go_wp2;exact eQ (v:=.tuple #[.slice none 0 0,int i64 2]) (by simp[results,results158,go_sem]) rfl ⟨_,[],rfl,rfl,.inl ⟨rfl,rfl⟩,bt j o,dZ.nil _⟩
 ·have g:=H.out.1
  have P:=H.out.2;rw[zQ I] at g;simp only[cQ] at g;obtain⟨rfl,rfl⟩:=g
  have M:Hid (rd i=[]):=by
   rcases P with h|h
   ·exact absurd h I
   ·rw[Hid,F.out,h]
  have S:(e1 == 0)=false:=by simpa using I
  clear P;go_wp2;exact eQ (v:=.tuple #[.slice a1 i.length c1,int i64 e1]) (by simp[results,results158,go_sem]) rfl ⟨_,i,rfl,M.out,G.out,j,A.out⟩
theorem dmZ (B:Nat)(v:Value)(ts:List Tr)(w:World)(hB:B<=w.heap.size)(a:uX w B v ts)(l:List Pt)(er:Int)(g:fU (rd ts)=(l,er)) :
  Calls prog 158 #[v] w fun e w'=>∃ v' us,e=.returned (.tuple #[v',int i64 er])/\rd us=l/\uV w' w.heap.size v' us/\xQ w w' :=
 (dmX B v ts w hB a l er g).mono fun _ _ ⟨v',us,h1,h2,h3,h4,_⟩=>⟨v',us,h1,h2,h3,h4⟩
theorem bhX (w:World)(B nb:Nat)(v:Value)(xs:List Int)(k:Int)(hB:B<=w.heap.size)(h:yQ w B nb v xs) :
  uX (w.alloc (.cells #[v,int i64 k] 186)) (w.heap.size+1) (.slice (some ⟨w.heap.size,0,none⟩) 1 1) [(v,xs,k)]:=by
 refine⟨_,1,rfl,by simp,by simp,fun t ht=>?_,fun _=>⟨w.heap.size,0,rfl,by omega,fun i t hi=>?_⟩⟩
 ·simp at ht;subst ht
  exact(h.at hB (ba _ _)).mono (by omega) (.inr (by omega))
 ·match i,hi with
  | 0,hi =>
   simp at hi;subst hi;exact⟨by simp[go_sem],by simp[go_sem]⟩
structure Dis (l:List Pt):Prop where
 rise:cY l
 pos:tJ l
 le:tot l<=1073741824
 ne:l≠[]
 ok:l.all gV=true
 few:l.length<=4096
 one:dv l=1
theorem dmJ {l:List Pt}(h:cY l):cY (cut g l):=by
 unfold cY cut;rw[List.pairwise_map];exact h
theorem bhZ (g:Nat):∀ l:List Pt,dv (l.map fun p=>(p.1,(g:Int)*p.2))=g*dv l
 | []=>by simp[dv]
 | p::l=>by
  simp only[aI,dv,bhZ g l];rw[Int.natAbs_mul,Int.natAbs_natCast,Nat.gcd_mul_left]
theorem bhJ {l:List Pt}{g:Nat}(h:∀ p∈l,(g:Int) ∣ p.2):(cut g l).map (fun p=>(p.1,(g:Int)*p.2))=l:=by
 simp only[cut,List.map_map]
 conv=>rhs;rw[<-List.map_id l]
 refine amJ fun p hp=>?_;simp only[Function.comp,id];rw[Int.mul_ediv_cancel' (h p hp)]
theorem biQ {l m:List Pt}(g:tJ l)(v:cY l)(h:mU l=(m,0)):cY m/\tJ m/\tot m<=1073741824/\m≠[]/\m.length<=4096/\dv m=1:=by
 unfold mU at h;split at h
 ·simp at h
 ·rename_i hne
  split at h
  ·simp at h
  ·rename_i hc
   simp only[cQ,sO] at h;subst h;have o:=lE g hne;have a:∀ p∈l,((dv l:Nat):Int) ∣ p.2:=fun p g=>zT g;refine⟨dmJ v,?_,by omega,?_,by rw[clX];omega,?_⟩
   ·intro p i
    obtain⟨q,j,rfl⟩:=iJ.1 i;have k:=g q j;exact Int.ediv_pos_of_pos_of_dvd k (by omega) (a q j)
   ·simp[cut,hne]
   ·have e:=bhZ (dv l) (cut (dv l) l)
    rw[bhJ a] at e;exact Nat.eq_of_mul_eq_mul_left o (by rw[<-e,Nat.mul_one])
theorem qB {l m:List Pt}(h:fU l=(m,0)):m=l/\Dis l:=by
 unfold fU at h;split at h
 ·rename_i h0
  split at h
  ·rename_i h1
   simp only[cQ,sO] at h;have g:iV l=(l,0):=Prod.ext h1 h0;unfold iV at g;split at g
   ·rename_i hok
    obtain⟨a,b,c,d,e,f⟩:=biQ (xT (rP hok).1) (dE l) g;exact⟨h.symm,a,b,c,d,hok,e,f⟩
   ·simp at g
  ·simp at h
 ·rename_i h0
  simp only[cQ] at h;exact absurd h.2 h0
theorem biX {l:List Pt}(h:cY l){p:Pt}(a:l[i]? = some p):wt l p.1=p.2:=by
 induction l generalizing i with
 | nil=>simp at a
 | cons q l ih =>
  cases i with
  | zero=>simp at a;subst a;exact aM h
  | succ i =>
   simp at a;rw[dU,ih (cE h) a,zQ (iN ((mL.1 h).1 p (qX a)))];omega
end
namespace Ds
abbrev Nx:=List Int->Option (List Int × Int × List Int)
def iG (nx:Nx):Nat->List Int->List Pt
 | 0,_=>[]
 | t+1,l=>match nx l with
  | none=>[]
  | some (o,u,r)=>(o,u)::iG nx t r
theorem o8 {nx:Nx}(h:nx l=none):iG nx t l=[]:=by
 cases t with
 | zero=>rfl
 | succ t=>simp[iG,h]
theorem t8 {nx:Nx}{r:List Int}(h:nx l=some (o,u,r)):iG nx (t+1) l=(o,u)::iG nx t r:=by
 simp[iG,h]
def kY (l:List Int):Bool:=l.any fun b=>decide (b≠0/\b≠1)
def xU (bits:List Int) (times:Int):Int:=if 65536<bits.length then 5 else if times<0\/4096<times\/kY bits=true then 3 else 0
def rm (T pl w:Int):Int:=w*pl % T
def uZ (T pl:Int) (l:List Pt):List (List Int):=(l.filter fun p=>decide (T<=2*rm T pl p.2)).map (·.1)
def aU (T:Int) (l:List Pt):Int->Int->Int->List Int->Option (List Int × Int × List Int)
 | _,_,_,[]=>none
 | pl,node,u,b::r=>match (uZ T pl l)[(2*node+b).toNat]? with
  | some o=>some (o,u+1,r)
  | none=>aU T l (2*pl % T) (2*node+b - (uZ T pl l).length) (u+1) r
def cV (l:List Pt):Nx:=fun bits=>match l with
 | [p]=>some (p.1,0,bits)
 | l=>aU (tot l) l 1 0 0 bits
theorem biZ (a b n:Int):a*(b % n) % n=a*b % n:=by rw[Int.mul_emod,Int.emod_emod,<-Int.mul_emod]
theorem biJ (a:0<T)(pl w:Int):0<=rm T pl w/\rm T pl w<T:=⟨Int.emod_nonneg _ (by omega),Int.emod_lt_of_pos _ a⟩
theorem dnQ {r:Int}(a:0<=r/\r<T):2*r % T=if T<=2*r then 2*r - T else 2*r:=by
 by_cases h:T<=2*r
 ·rw[jQ h,show 2*r=(2*r - T)+T*1 by omega,Int.add_mul_emod_self_left,Int.emod_eq_of_lt (by omega) (by omega)]
  omega
 ·rw[zQ h,Int.emod_eq_of_lt (by omega) (by omega)]
theorem bjQ (T pl w:Int):rm T (2*pl % T) w=2*rm T pl w % T:=by
 unfold rm;rw[biZ,biZ,<-pK,<-pK,Int.mul_comm w 2]
def tr (T pl:Int):List Pt->Int
 | []=>0
 | p::l=>rm T pl p.2+tr T pl l
theorem x9 (T pl:Int)(p:Pt)(l:List Pt):uZ T pl (p::l)=if T<=2*rm T pl p.2 then p.1::uZ T pl l else uZ T pl l:=by
 unfold uZ;rw[List.filter_cons];by_cases h:T<=2*rm T pl p.2
 ·rw[jQ h,jQ (sJ h)];rfl
 ·rw[zQ h,zQ (by simp;omega)]
theorem bjX (T pl:Int)(l k:List Pt):uZ T pl (l++k)=uZ T pl l++uZ T pl k:=by simp[uZ]
theorem dnX (g:0<T)(pl:Int)(l:List Pt):tr T (2*pl % T) l=2*tr T pl l - T*(uZ T pl l).length:=by
 induction l with
 | nil=>simp[tr,uZ]
 | cons p l ih =>
  have a:=biJ g pl p.2;simp only[tr];rw[ih,bjQ,dnQ a,x9];split
  ·have e:T*((uZ T pl l).length+1:Int)=T*(uZ T pl l).length+T:=by rw[Int.mul_add,Int.mul_one]
   simp only[cD];rw[lC,Int.natCast_one,e];omega
  ·omega
theorem dnZ (a:0<T)(pl:Int)(l:List Pt):0<=tr T pl l/\tr T pl l<=T*l.length:=by
 induction l with
 | nil=>simp[tr]
 | cons p l ih =>
  have g:=biJ a pl p.2;simp only[tr,cD];rw[lC,Int.mul_add,Int.natCast_one,Int.mul_one];omega
theorem dnJ (l:List Pt)(h:∀ p∈l,0<=p.2/\p.2<T):tr T 1 l=tot l:=by
 induction l with
 | nil=>rfl
 | cons p l ih =>
  have:=h p (by simp);rw[tr,xY,ih fun q hq=>h q (by simp[hq]),rm,Int.mul_one,Int.emod_eq_of_lt this.1 this.2]
def Nd (T pl:Int) (l:List Pt) (node:Int):Prop:=∃ I:Int,tr T pl l=T*I/\0<=node/\node<I
theorem Nd.le {pl:Int}{l:List Pt}(h:Nd T pl l node)(g:0<T):0<=node/\node<l.length:=by
 obtain⟨I,i,j,k⟩:=h;have a:=(dnZ g pl l).2;rw[i] at a;have:=Int.le_of_mul_le_mul_left a g;omega
theorem Nd.next {pl:Int}{l:List Pt}{b:Int}(h:Nd T pl l node)(g:0<T)(k:0<=b/\b<=1)(m:((uZ T pl l).length:Int)<=2*node+b):Nd T (2*pl % T) l (2*node+b - (uZ T pl l).length):=by
 obtain⟨I,a,i,j⟩:=h;refine⟨2*I - (uZ T pl l).length,?_,by omega,by omega⟩;rw[dnX g,a,Int.mul_sub,<-pK,<-pK,Int.mul_comm T 2]
theorem Nd.start {l:List Pt}(h:∀ p∈l,0<=p.2/\p.2<tot l):Nd (tot l) 1 l 0:=⟨1,by rw[dnJ l h,Int.mul_one],by omega,by omega⟩
end Ds
section
open Go.RowKit Ds
theorem Dis.tpos {l:List Pt}(h:Dis l):1<=tot l:=by
 cases l with
 | nil=>exact absurd rfl h.ne
 | cons p l =>
  have a:=h.pos p (by simp);have g:0<=tot l:=(Nn.of_pos (l:=l) fun q hq=>h.pos q (by simp[hq])).tot_nn;rw[xY];omega
theorem Dis.less {l:List Pt}(h:Dis l)(i:2<=l.length):∀ p∈l,0<=p.2/\p.2<tot l:=by
 intro p g;have k:=h.pos p g;refine⟨by omega,?_⟩;obtain⟨a,b,rfl⟩:=List.append_of_mem g;have ha:0<=tot a:=(Nn.of_pos (l:=a) fun q hq=>h.pos q (by simp[hq])).tot_nn;have m:0<=tot b:=(Nn.of_pos (l:=b) fun q hq=>h.pos q (by simp[hq])).tot_nn;rw[uM,xY];cases a with
 | cons q a =>
  have:=h.pos q (by simp);have j:0<=tot a:=(Nn.of_pos (l:=a) fun r hr=>h.pos r (by simp[hr])).tot_nn;rw[xY];omega
 | nil=>cases b with
  | cons q b =>
   have:=h.pos q (by simp);have j:0<=tot b:=(Nn.of_pos (l:=b) fun r hr=>h.pos r (by simp[hr])).tot_nn;rw[xY];simp;omega
  | nil=>simp at i
theorem wX (w:World)(r:Option Nat):w.grownBy w r:=qP w r
theorem sU {a c:World}(h:a.grownBy b r)(k:b.grownBy c r):a.grownBy c r :=
 ⟨k.os.trans h.os,k.tape.trans h.tape,k.output.trans h.output,bQ h.size k.size,fun i hi hr=>(k.block i (lQ hi h.size) hr).trans (h.block i hi hr)⟩
theorem fG {a:World}(h:a.grownBy b r)(o:Obj):a.grownBy (b.alloc o) r:=sU h (World.grownBy_alloc b o r)
theorem kV {a:World}(h:a.grownBy b r):a.grownBy b.drew r:=⟨h.os,h.tape,h.output,h.size,h.block⟩
theorem aX {a:World}(h:a.grownBy b (some E))(g:p.block=E)(u:Value):a.grownBy (b.setCell p u) (some E) :=
 sU h ⟨rfl,rfl,rfl,by simp[World.setCell],fun k _ hr=>fO _ _ _ _ (by rw[g];intro e;exact hr (by rw[e]))⟩
theorem iM {a:World}(h:a.grownBy b (some E))(k:Nat)(u:Value):a.grownBy (b.setCell ⟨E,k,none⟩ u) (some E):=aX h rfl u
theorem eL {a:World}(h:a.grownBy b r)(g:a.heap.size<=p.block)(u:Value):a.grownBy (b.setCell p u) r :=
 ⟨h.os,h.tape,h.output,by simp[World.setCell];exact h.size,fun k hk hr=>(fO _ _ _ _ (by omega)).trans (h.block k hk hr)⟩
theorem zH {a:World}(h:xQ a b):a.grownBy b (some E):=⟨h.os,h.tape,h.output,h.size,fun k hk _=>h.block k hk⟩
theorem yF {a:World}(h:a.grownBy b (some E))(hB:B<=E)(g:B<=a.heap.size):Below B a b:=⟨h.os,h.tape,h.output,h.size,fun k hk=>h.block k (by omega) (by simp;omega)⟩
theorem nc (cs:Array Value)(t:TypeId)(k:Nat)(x:Value)(a:N=w.heap.size)(g:cs[k]? = some x):(w.alloc (.cells cs t)).cell? ⟨N,k,none⟩=some x:=by
 rw[pO _ _ _ _ a];exact g
theorem nf (cs:Array Value)(t:TypeId)(k:Nat)(a:N=w.heap.size):(w.alloc (.cells cs t)).frozen? ⟨N,k,none⟩=false:=nC _ _ _ _ a
structure Rv (w:World) (R:Nat) (s:Value) (k:Int):Prop where
 c0:w.cell? ⟨R,0,none⟩=some s
 c1:w.cell? ⟨R,1,none⟩=some (int i64 k)
 f0:w.frozen? ⟨R,0,none⟩=false
 f1:w.frozen? ⟨R,1,none⟩=false
 lt:R<w.heap.size
theorem Rv.below (h:Rv w R s k)(b:xQ w w'):Rv w' R s k :=
 ⟨(b.cell (p:=⟨R,0,none⟩) h.lt).trans h.c0,(b.cell (p:=⟨R,1,none⟩) h.lt).trans h.c1,(b.frozen (p:=⟨R,0,none⟩) h.lt).trans h.f0,(b.frozen (p:=⟨R,1,none⟩) h.lt).trans h.f1,lQ h.lt b.size⟩
theorem Rv.alloc (h:Rv w R s k)(o:Obj):Rv (w.alloc o) R s k:=h.below ((uQ _ w).alloc (vQ _) o)
theorem Rv.drew (h:Rv w R s k):Rv w.drew R s k:=⟨h.c0,h.c1,h.f0,h.f1,h.lt⟩
theorem Rv.new (w:World)(s:Value)(k:Int)(t:TypeId)(N:Nat)(a:N=w.heap.size):Rv (w.alloc (.cells #[s,int i64 k] t)) N s k :=
 ⟨nc _ _ 0 _ a rfl,nc _ _ 1 _ a rfl,nf _ _ 0 a,nf _ _ 1 a,by simp;omega⟩
theorem yQ.setm (h:∀ m,m<N->yQ w B m v xs)(b k:Nat)(F:b<N)(u:Value):∀ m,m<N->yQ (w.setCell ⟨b,k,none⟩ u) B m v xs:=by
 intro m C;have y:=h b F;obtain⟨a,c,p,hc,A,G⟩:=h m C;refine⟨a,c,p,hc,A,fun hne=>?_⟩;obtain⟨b1,H,ha,z,D,g⟩:=G hne;refine⟨b1,H,ha,z,D,fun i x hi=>?_⟩;rw[jX]
 ·exact g i x hi
 ·obtain⟨a2,c2,j,_,_,o⟩:=y
  obtain⟨b2,I,l,_,E,_⟩:=o hne;rw[p,ha,l] at j;simp only[yZ,aZ,dD] at j;intro e;simp only[dD] at e;omega
abbrev qI:Value:=.agg #[.slice none 0 0,int i64 0]
def doQ (E:Nat) {S:Type} (St:World->S->Prop) (go:S->Nx) (us:S->Int) (s0 s:S) (b:Int) (w:World) (e:Ending) (w':World):Prop :=
 w.grownBy w' (some E) /\
  ((e=.returned (.tuple #[qI,.bool false])/\∃ s',St w' s'/\us s' = us s+1/\∀ l,go s (b::l)=go s' l) \/
   (∃ a c o,e=.returned (.tuple #[.agg #[.slice a (o:List Int).length c,int i64 (us s+1)],.bool true])/\(∀ m,m<w.heap.size->yQ w' w'.heap.size m (.slice a o.length c) o)/\St w' s0/\∀ l,go s (b::l)=some (o,us s+1,l)))
def bjZ (sur:Option (List Int)) (w:World) (e:Ending) (w':World):Prop :=
 xQ w w'/\(sur=none->e=.returned (.tuple #[qI,.bool false])) /\
  ∀ o,sur=some o->∃ a c,e=.returned (.tuple #[.agg #[.slice a o.length c,int i64 0],.bool true])/\∀ m,m<w.heap.size->yQ w' w'.heap.size m (.slice a o.length c) o
structure Drw (N E fF fS:Nat) {S:Type} (St:World->S->Prop) (go:S->Nx) (us:S->Int) (s0:S) (sur:Option (List Int)):Prop where
 keep:∀ {w w' s},St w s->Below N w w'->N<=w.heap.size->St w' s
 lt:E<N
 nil:∀ s,go s []=none
 u0:us s0=0
 feed:sur=none->∀ w s b,St w s->N<=w.heap.size->0<=b/\b<=1->0<=us s/\us s<=65536->Calls prog fF #[.pointer (some ⟨E,0,none⟩),int i64 b] w (doQ E St go us s0 s b w)
 sure:∀ w s,St w s->N<=w.heap.size->Calls prog fS #[.pointer (some ⟨E,0,none⟩)] w (bjZ sur w)
def xK {S:Type} (go:S->Nx) (s0:S) (sur:Option (List Int)):Nx:=fun l=>match sur with
 | some o=>some (o,0,l)
 | none=>go s0 l
theorem yQ.drop (h:yQ w B nb (.slice a xs.length c) xs)(i:Nat) :
  ∀ b o,a=some ⟨b,o,none⟩->yQ w B nb (.slice (some ⟨b,o+i,none⟩) (xs.length - i) (c - i)) (xs.drop i):=by
 intro b o ha;obtain⟨z,A,m,hc,C,y⟩:=h;simp only[yZ] at m;obtain⟨rfl,_,rfl⟩:=m;refine⟨some ⟨b,o+i,none⟩,c - i,by simp,by simp;omega,by simp;omega,fun hne=>?_⟩;have l:xs≠[]:=by rintro rfl;simp at hne
 obtain⟨b',D,g,p,v,k⟩:=y l;rw[ha] at g;simp only[aZ,dD] at g;obtain⟨rfl,rfl,_⟩:=g;refine⟨b,o+i,rfl,p,v,fun j x hj=>?_⟩;rw[kK] at hj;have:=k (i+j) x hj;rwa [<-cU] at this
theorem yQ.drop2 {b o:Nat}(h:yQ w B nb (.slice (some ⟨b,o,none⟩) xs.length c) xs)(i:Nat)(hi:i<=xs.length) :
  yQ w B nb (.slice (if c=i then some ⟨b,o,none⟩ else some ⟨b,o+i,none⟩) (xs.drop i).length (c - i)) (xs.drop i):=by
 by_cases e:c=i
 ·have hc:xs.length<=c:=by
   obtain⟨g,j,a,hc,_⟩:=h;simp only[yZ] at a;omega
  rw[jQ e,gA (by omega)];exact⟨_,_,rfl,by simp,by simp,fun h=>absurd rfl h⟩
 ·rw[zQ e,pF]
  exact h.drop i b o rfl
theorem yQ.gb (h:yQ w B E v xs)(l:w.grownBy w' (some E)):yQ w' B E v xs:=by
 obtain⟨a,c,p,hc,m,y⟩:=h;refine⟨a,c,p,hc,m,fun hne=>?_⟩;obtain⟨b,o,ha,k,j,g⟩:=y hne;exact⟨b,o,ha,k,j,fun i x hi=>l.cell (g i x hi) (by simpa using j)⟩
theorem j9 (h:kY l=false){b:Int}(a:l[i]? = some b):0<=b/\b<=1:=by
 have:=(List.any_eq_false.1 h) b (qX a);simp at this;omega
theorem xB (h:kY l=false)(i:Nat):kY (l.drop i)=false :=
 List.any_eq_false.2 fun b hb=>(List.any_eq_false.1 h) b (amZ hb)
theorem Rv.gb (h:Rv w R s k)(g:w.grownBy w' (some E))(j:R≠E):Rv w' R s k :=
 have i:some R≠some E:=by simpa using j
 ⟨g.cell (a:=⟨R,0,none⟩) h.c0 i,g.cell (a:=⟨R,1,none⟩) h.c1 i,(nV (w:=w) (a:=⟨R,0,none⟩) (g.block R h.lt i)).trans h.f0,(nV (w:=w) (a:=⟨R,1,none⟩) (g.block R h.lt i)).trans h.f1,lQ h.lt g.size⟩
theorem Rv.put (h:Rv w R s k)(s':Value)(k':Int):Rv ((w.setCell ⟨R,0,none⟩ s').setCell ⟨R,1,none⟩ (int i64 k')) R s' k' :=
 ⟨by rw[jX (by simp)];exact uU h.c0,by refine uU (u:=int i64 k) ?_;rw[jX (by simp)];exact h.c1,by rw[eJ,eJ];exact h.f0,by rw[eJ,eJ];exact h.f1,by simpa using h.lt⟩
def doX (B E:Nat) {S:Type} (St:World->S->Prop) (nx:Nx) (s0:S) (bits:List Int) (w:World) (e:Ending) (w':World):Prop :=
 w.grownBy w' (some E) /\
  ((nx bits=none/\e=.returned (.tuple #[qI,.slice none 0 0,.bool false])) \/
   (∃ a c o k a' c' j,nx bits=some (o,k,bits.drop j)/\e=.returned (.tuple #[.agg #[.slice a (o:List Int).length c,int i64 k],.slice a' (bits.drop j).length c',.bool true]) /\
    (∀ m,m<w.heap.size->yQ w' w'.heap.size m (.slice a o.length c) o)/\yQ w' B E (.slice a' (bits.drop j).length c') (bits.drop j)/\St w' s0))
structure Rob (w:World) (E:Nat) (v:Value) (T nd u pl:Int):Prop where
 c0:w.cell? ⟨E,0,none⟩=some v
 c1:w.cell? ⟨E,1,none⟩=some (int i64 T)
 c2:w.cell? ⟨E,2,none⟩=some (int i64 nd)
 c3:w.cell? ⟨E,3,none⟩=some (int i64 u)
 c4:w.cell? ⟨E,4,none⟩=some (int i64 pl)
 fz:∀ j,w.frozen? ⟨E,j,none⟩=false
 lt:E<w.heap.size
theorem Rob.keep {nd pl:Int}(h:Rob w E v T nd u pl)(b:Below N w w')(a:E<N):Rob w' E v T nd u pl :=
 ⟨(b.cell (p:=⟨E,0,none⟩) a).trans h.c0,(b.cell (p:=⟨E,1,none⟩) a).trans h.c1,(b.cell (p:=⟨E,2,none⟩) a).trans h.c2,(b.cell (p:=⟨E,3,none⟩) a).trans h.c3,(b.cell (p:=⟨E,4,none⟩) a).trans h.c4,
  fun j=>(b.frozen (p:=⟨E,j,none⟩) a).trans (h.fz j),lQ h.lt b.size⟩
theorem Rob.at {nd pl:Int}(h:Rob w E v T nd u pl)(b:xQ w w'):Rob w' E v T nd u pl:=h.keep b h.lt
theorem Rob.alloc {nd pl:Int}(h:Rob w E v T nd u pl)(o:Obj):Rob (w.alloc o) E v T nd u pl:=h.at (ba w o)
theorem Rob.drew {nd pl:Int}(h:Rob w E v T nd u pl):Rob w.drew E v T nd u pl:=⟨h.c0,h.c1,h.c2,h.c3,h.c4,h.fz,h.lt⟩
theorem Rob.s1 {nd pl:Int}(h:Rob w E v T nd u pl)(x:Int):Rob (w.setCell ⟨E,1,none⟩ (int i64 x)) E v x nd u pl :=
 ⟨by rw[jX (by simp)];exact h.c0,uU h.c1,by rw[jX (by simp)];exact h.c2,by rw[jX (by simp)];exact h.c3,by rw[jX (by simp)];exact h.c4,fun j=>by rw[eJ];exact h.fz j,by simpa using h.lt⟩
theorem Rob.s2 {nd pl:Int}(h:Rob w E v T nd u pl)(x:Int):Rob (w.setCell ⟨E,2,none⟩ (int i64 x)) E v T x u pl :=
 ⟨by rw[jX (by simp)];exact h.c0,by rw[jX (by simp)];exact h.c1,uU h.c2,by rw[jX (by simp)];exact h.c3,by rw[jX (by simp)];exact h.c4,fun j=>by rw[eJ];exact h.fz j,by simpa using h.lt⟩
theorem Rob.s3 {nd pl:Int}(h:Rob w E v T nd u pl)(x:Int):Rob (w.setCell ⟨E,3,none⟩ (int i64 x)) E v T nd x pl :=
 ⟨by rw[jX (by simp)];exact h.c0,by rw[jX (by simp)];exact h.c1,by rw[jX (by simp)];exact h.c2,uU h.c3,by rw[jX (by simp)];exact h.c4,fun j=>by rw[eJ];exact h.fz j,by simpa using h.lt⟩
theorem Rob.s4 {nd pl:Int}(h:Rob w E v T nd u pl)(x:Int):Rob (w.setCell ⟨E,4,none⟩ (int i64 x)) E v T nd u x :=
 ⟨by rw[jX (by simp)];exact h.c0,by rw[jX (by simp)];exact h.c1,by rw[jX (by simp)];exact h.c2,by rw[jX (by simp)];exact h.c3,uU h.c4,fun j=>by rw[eJ];exact h.fz j,by simpa using h.lt⟩
theorem Rob.other {nd pl:Int}(h:Rob w E v T nd u pl)(b k:Nat)(g:b≠E)(x:Value):Rob (w.setCell ⟨b,k,none⟩ x) E v T nd u pl :=
 have a:∀ j,(⟨b,k,none⟩:Addr)≠⟨E,j,none⟩:=fun j e=>g (congrArg Addr.block e)
 ⟨by rw[jX (a 0)];exact h.c0,by rw[jX (a 1)];exact h.c1,by rw[jX (a 2)];exact h.c2,by rw[jX (a 3)];exact h.c3,by rw[jX (a 4)];exact h.c4,fun j=>by rw[eJ];exact h.fz j,by simpa using h.lt⟩
theorem Rob.nd {nd nd' pl:Int}(h:Rob w E v T nd u pl)(e:nd=nd'):Rob w E v T nd' u pl:=e▸h
structure Rop (w:World) (N E:Nat) (a:Option Addr) (c:Nat) (ts:List Tr):Prop where
 cap:ts.length<=c
 few:ts.length<=4096
 row:ts≠[]->∃ b o,a=some ⟨b,o,none⟩/\b<N/\b≠E/\gD w b o ts
 ls:∀ t∈ts,yQ w N E t.1 t.2.1
theorem Rop.keep {ts:List Tr}(h:Rop w N E a c ts)(g:Below N w w'):Rop w' N E a c ts :=
 ⟨h.cap,h.few,fun hne=>let ⟨b,o,h1,h2,h3,h4⟩:=h.row hne;⟨b,o,h1,h2,h3,h4.keep g h2⟩,fun t ht=>(h.ls t ht).keep g⟩
theorem Rop.gb {ts:List Tr}(h:Rop w N E a c ts)(g:w.grownBy w' (some E)):Rop w' N E a c ts :=
 ⟨h.cap,h.few,fun hne=>let ⟨b,o,h1,h2,h3,h4⟩:=h.row hne;⟨b,o,h1,h2,h3,fun i t ht=>⟨g.cell (h4 i t ht).1 (by simpa using h3),g.cell (h4 i t ht).2 (by simpa using h3)⟩⟩,fun t ht=>(h.ls t ht).gb g⟩
theorem Rop.get {ts:List Tr}(h:Rop w N E a c ts)(hi:i<ts.length) :
  ∃ b o g j xs k,a=some ⟨b,o,none⟩/\b<N/\b≠E/\ts[i]? = some (.slice g xs.length j,xs,k)/\w.cell? ⟨b,o+i*2,none⟩=some (.slice g xs.length j)/\w.cell? ⟨b,o+i*2+1,none⟩=some (int i64 k)/\yQ w N E (.slice g xs.length j) xs:=by
 obtain⟨b,o,ha,y,l,hc⟩:=h.row (ne_of_lt hi);obtain⟨⟨s,xs,k⟩,m⟩:=fX hi;have v:=h.ls _ (qX m);obtain⟨g,j,p,r⟩:=v;simp only at p;subst p;obtain⟨c1,c2⟩:=hc i _ m;exact⟨b,o,g,j,xs,k,ha,y,l,m,c1,c2,g,j,rfl,r⟩
theorem doZ {ts:List Tr}{t:Tr}(h:ts[i]? = some t):rd (ts.take (i+1))=rd (ts.take i)++[t.2]:=by
 rw[rX,h];simp[rd]
theorem sP {pl:Int}{ts:List Tr}(h:ts[i]? = some (s,xs,k)) :
  uZ T pl (rd (ts.take (i+1)))=uZ T pl (rd (ts.take i))++if T<=2*rm T pl k then [xs] else []:=by
 rw[doZ h,bjX,x9];rfl
theorem bjJ {pl:Int}{ts:List Tr}(h:ts[i]? = some (s,xs,k))(a:T<=2*rm T pl k) :
  (uZ T pl (rd ts))[(uZ T pl (rd (ts.take i))).length]? = some xs:=by
 have e:rd ts=rd (ts.take (i+1))++rd (ts.drop (i+1)):=by
  unfold rd;rw[<-iA,xN]
 rw[e,bjX,sP h,jQ a,qS,mH (vQ _)];simp
theorem Rv.other (h:Rv w R s k)(b j:Nat)(g:b≠R)(x:Value):Rv (w.setCell ⟨b,j,none⟩ x) R s k :=
 have a:∀ i,(⟨b,j,none⟩:Addr)≠⟨R,i,none⟩:=fun i e=>g (congrArg Addr.block e)
 ⟨by rw[jX (a 0)];exact h.c0,by rw[jX (a 1)];exact h.c1,by rw[eJ];exact h.f0,by rw[eJ];exact h.f1,by simpa using h.lt⟩
theorem bkQ (w:World):Calls prog 102 #[] w fun e w'=>e=.returned (.agg #[int i64 0,int i64 0,int i64 1])/\xQ w w':=by
 go_enter func102,ntmps102;go_wp2;exact eQ (v:=.agg #[int i64 0,int i64 0,int i64 1]) (by simp[results,results102,go_sem]) rfl ⟨rfl,ba _ _⟩
theorem bkX (E:Nat)(v D:Value)(T nd u pl k:Int)(w:World)(h:Rob w E v T nd u pl)(o:∃ a n c,D=.slice a n c)(J:1<=T/\T<=1073741824)(y:0<=pl/\pl<T)(p:0<=k/\k<=1073741824)(r:Bool)(z:decide (T<=2*rm T pl k)=r) :
  Calls prog 163 #[.pointer (some ⟨E,0,none⟩),.agg #[D,int i64 k]] w (iQ w (.bool r)):=by
 obtain⟨A,C,B,rfl⟩:=o;have H:Hid (Rob w E v T nd u pl):=h;have i:Hid (decide (T<=2*(k*pl % T))=r):=z;have I:0<=k*pl/\k*pl<=1152921504606846976:=⟨sD p.1 y.1,fK (nH p.2 (show pl<=1073741824 by omega) y.1 (by omega)) (by omega)⟩;obtain⟨P,m⟩:∃ P,k*pl=P:=⟨_,rfl⟩;rw[m] at I;have G:0<=P % T/\P % T<T:=⟨Int.emod_nonneg _ (by omega),Int.emod_lt_of_pos _ (by omega)⟩;rw[Hid,m] at i;have g:Hid (decide (T<=2*(P % T))=r):=i;clear i;have c1:=(H.out.alloc (.cells #[.slice A C B,int i64 k] 186)).c1;have c4:=(H.out.alloc (.cells #[.slice A C B,int i64 k] 186)).c4;have F:¬ T=0:=by omega
 clear h z;go_enter func163,ntmps163;go_wp2
 go_region
 obtain⟨M,l⟩:∃ M,P % T=M:=⟨_,rfl⟩;rw[Hid,l] at g;rw[l] at G ⊢;have j:Hid (decide (T<=2*M)=r):=g;clear l g m;go_wp2;go_ret;exact⟨qH j.out,(ba _ _).drew⟩
