import Derived.Test.YtcaplmodgbpchaaGreatDoorQq14
import Derived.Test.YtcaplmodgbpchaaGreatDoorQq15
import Derived.Deep.DeepCutAuto
import Derived.Deep.CutRange
open Go.Proofs.Tryz
open Go.Value(int)
open Go.IntKind(i64)
set_option linter.unusedSimpArgs false
set_option maxHeartbeats 16000000
set_option maxRecDepth 100000
namespace Go.Proofs.YtcaplmodgbpchaaGreatDoor
variable {v:Value} {f:Bool} {w w':World} {er x:Int}
section
open Go.RowKit Ds
def oF (l:List Pt) (x:List Int):Prop:=∀ q∈l,yJ q.1 x
structure Laid (ts ds:List Tr):Prop where
 rise:cY (rd ds)
 wts:∀ q∈rd ds,q.2=wt (rd ts) q.1/\0<q.2
 all:∀ t∈ts,0<t.2.2->(∃ q∈rd ds,q.1=t.2.1)\/oF (rd ds) t.2.1
 src:∀ d∈ds,∃ t∈ts,t.1=d.1/\t.2.1=d.2.1
 len:∃ rest:List Tr,rest.length+ds.length<=ts.length/\∀ t∈ts,0<t.2.2->oF (rd ds) t.2.1->t∈rest
theorem Laid.nil (ts:List Tr):Laid ts [] :=
 ⟨List.Pairwise.nil,by intro q h;simp[rd] at h,fun t _ _=>.inr (by intro q h;simp[rd] at h),by intro d h;simp at h,⟨ts,by simp,fun t ht _ _=>ht⟩⟩
def pB (ts ds:List Tr) (v:Value) (f:Bool):Prop :=
 (f=false/\∀ t∈ts,0<t.2.2->¬ oF (rd ds) t.2.1)\/(f=true/\∃ t∈ts,v=t.1/\0<t.2.2/\oF (rd ds) t.2.1/\∀ u∈ts,0<u.2.2->oF (rd ds) u.2.1->¬ yJ u.2.1 t.2.1)
theorem euQ {ts:List Tr}(h:xV false [] ts v f):pB ts [] v f:=by
 have hc:∀ t:Tr,0<t.2.2->vA false [] t:=fun t a=>⟨a,fun h=>by cases h⟩;rcases h with⟨g,_,i⟩|⟨g,t,a,j,i,k⟩
 ·exact .inl ⟨g,fun t a hk=>absurd (hc t hk) (i t a)⟩
 ·exact .inr ⟨g,t,a,j,i.1,by intro q h;simp[rd] at h,fun u hu hk _=>k u hu (hc u hk)⟩
theorem sB {ds:List Tr}{d:Tr}(i:cY (rd (ds++[d])))(x:List Int):oF (rd (ds++[d])) x↔yJ d.2.1 x:=by
 constructor
 ·intro h;exact h d.2 (by rw[uG];simp[rd])
 ·intro h q g
  rw[uG] at g i;rcases aV.1 g with a|a
  ·exact wK ((yN.1 i).2.2 q a d.2 (by simp[rd])) h
  ·simp[rd] at a;subst a;exact h
theorem euX {ts ds:List Tr}{d:Tr}(j:cY (rd (ds++[d])))(h:xV true d.2.1 ts v f):pB ts (ds++[d]) v f:=by
 have hc:∀ t:Tr,0<t.2.2->oF (rd (ds++[d])) t.2.1->vA true d.2.1 t:=fun t a ha=>⟨a,fun _=>(sB j _).1 ha⟩;rcases h with⟨i,_,g⟩|⟨i,t,a,k,g,l⟩
 ·exact .inl ⟨i,fun t a hk ha=>absurd (hc t hk ha) (g t a)⟩
 ·exact .inr ⟨i,t,a,k,g.1,(sB j _).2 (g.2 rfl),fun u hu hk ha=>l u hu (hc u hk ha)⟩
theorem Laid.more {ts ds:List Tr}{t:Tr}(h:Laid ts ds)(p:Nn (rd ts))(y:t∈ts)(B:0<t.2.2)(ha:oF (rd ds) t.2.1)(m:∀ u∈ts,0<u.2.2->oF (rd ds) u.2.1->¬ yJ u.2.1 t.2.1) :
  Laid ts (ds++[(t.1,t.2.1,wt (rd ts) t.2.1)]):=by
 have C:0<wt (rd ts) t.2.1:=by
  have v:∀ l:List Pt,Nn l->t.2∈l->t.2.2<=wt l t.2.1:=by
   intro l
   induction l with
   | nil=>intro _ h;cases h
   | cons q l ih =>
    intro p h;have o:Nn l:=fun r hr=>p r (by simp[hr]);have i:=(o.wt_le t.2.1).1;have A:=p q (by simp);rw[dU];rcases kJ.1 h with rfl|h
    ·rw[jQ rfl];omega
    ·have:=ih o h;split <;> omega
  have:=v _ p (anX (f:=fun t:Tr=>t.2) y);omega
 have g:cY (rd (ds++[(t.1,t.2.1,wt (rd ts) t.2.1)])):=by
  rw[uG];refine yN.2 ⟨h.rise,by simp[rd],fun a haa b hb=>?_⟩;simp[rd] at hb;subst hb;exact ha a haa
 refine⟨g,fun q k=>?_,fun u hu hku=>?_,fun d hd=>?_,?_⟩
 ·rw[uG] at k
  rcases aV.1 k with i|i
  ·exact h.wts q i
  ·simp[rd] at i;subst i;exact⟨rfl,C⟩
 ·rcases h.all u hu hku with⟨q,k,e⟩|i
  ·exact .inl ⟨q,by rw[uG];simp[k],e⟩
  ·rcases bP u.2.1 t.2.1 with c|c|c
   ·exact absurd c (m u hu hku i)
   ·exact .inl ⟨(t.2.1,wt (rd ts) t.2.1),by rw[uG];simp[rd],c.symm⟩
   ·refine .inr ((sB g _).2 c)
 ·rcases aV.1 hd with i|i
  ·exact h.src d i
  ·simp at i;subst i;exact⟨t,y,rfl,rfl⟩
 ·obtain⟨rest,D,j⟩:=h.len
  have z:=j t y B ha;refine⟨rest.filter (fun u=>decide (yJ t.2.1 u.2.1)),?_,fun u hu hku hau=>?_⟩
  ·have:(rest.filter (fun u=>decide (yJ t.2.1 u.2.1))).length<rest.length:=by
    refine List.length_filter_lt_length_iff_exists.2 ⟨t,z,?_⟩;simp only[dJ];exact qT _
   simp only[sY,cD,List.length_nil];omega
  ·have A:=(sB g _).1 hau
   refine bI.2 ⟨j u hu hku fun q k=>hau q (by rw[uG];simp[k]),sJ A⟩
theorem Laid.done {ts ds:List Tr}(h:Laid ts ds)(A:Nn (rd ts))(G:pB ts ds v false):gath (rd ts)=rd ds:=by
 have g:∀ t∈ts,0<t.2.2->¬ oF (rd ds) t.2.1:=by
  rcases G with⟨_,h⟩|⟨h,_⟩
  ·exact h
  ·cases h
 refine eE A h.rise (fun q a=>(h.wts q a).2) fun o=>?_;by_cases m:∃ q∈rd ds,q.1=o
 ·obtain⟨q,a,rfl⟩:=m
  obtain⟨i,hi,k⟩:=List.mem_iff_getElem.1 a;rw[biX h.rise (i:=i) (p:=q) (by rw[nZ hi,k]),(h.wts q a).1]
 ·have C:wt (rd ds) o=0:=dP fun p j e=>m ⟨p,j,e⟩
  rw[C]
  have D:∀ p∈rd ts,p.1=o->p.2=0:=by
   intro p j e;obtain⟨t,B,rfl⟩:=iJ.1 j;have E:=A t.2 j;by_cases z:0<t.2.2
   ·rcases h.all t B z with⟨q,a,e2⟩|ha
    ·exact absurd ⟨q,a,e2.trans e⟩ m
    ·exact absurd ha (g t B z)
   ·have:t.2.2=0:=by have:0<=t.2.2:=E;omega
    exact this
  have F:∀ l:List Pt,(∀ p∈l,p.1=o->p.2=0)->wt l o=0:=by
   intro l
   induction l with
   | nil=>intro _;rfl
   | cons p l ih =>
    intro y;rw[dU,ih fun q a=>y q (by simp[a])];split
    ·rename_i e;rw[y p (by simp) e];rfl
    ·rfl
  exact(F _ D).symm
theorem euZ (B:Nat)(v:Value)(ts:List Tr)(w:World)(hB:B<=w.heap.size)(hp:uX w B v ts)(hn:Nn (rd ts))(hM:tot (rd ts)<=4611686018427387904)(l:List Pt)(er:Int)(hr:mU (gath (rd ts))=(l,er)) :
  Calls prog 171 #[v] w fun e w'=>∃ v' us,e=.returned (.tuple #[v',int i64 er])/\rd us=l/\uV w' w.heap.size v' us/\xQ w w'/\∀ t∈us,∃ u∈ts,u.1=t.1/\u.2.1=t.2.1:=by
 have HP:=qQ hp;obtain⟨a,c,rfl,hc,hl,_⟩:=hp;have HH:Hid (Nn (rd ts)/\tot (rd ts)<=4611686018427387904/\mU (gath (rd ts))=(l,er)):=⟨hn,hM,hr⟩;obtain⟨i0,cu,cz,d3,d4⟩:=pZ gM;clear hn hM hr;go_enter func171,ntmps171;go_wp2_with fail;refine(erZ B _ _ ts [] w hB HP.out (j8 w B B)).mono ?_;rintro e w1 ⟨ov,f,rfl,hf,⟨J,on,L,rfl⟩,C⟩;have ce:=qQ (euQ hf);clear hf;go_wp2
 go_loopw [4,5,6] (fun dv ov fv wr=>∃ (ds:List Tr) (f:Bool) (J:Option Addr) (on L:Nat),fv=.bool f/\ov=.slice J on L/\Laid ts ds/\pB ts ds (.slice J on L) f/\wr.ownsRow w.heap.size 186 2 dv ds.length (flat ds)/\xQ w wr) (fun dv _ _ _=>ts.length - slen dv)
 case atStart=>exact⟨[],f,J,on,L,rfl,rfl,Laid.nil ts,ce.out,⟨rfl,.inl ⟨rfl,rfl⟩⟩,C⟩
 case round =>
  obtain⟨ds,f,J,on,L,rfl,rfl,V,X,Y,E⟩:=hrel;have G:=qQ V;have HO:=qQ Y;have HX:=qQ X;obtain⟨da,dc,rfl⟩:=pI Y;have e8:=E.size;clear V X Y;cases f with
  | true =>
   obtain⟨⟨tv,M,k⟩,A,he,hk,N,ak⟩:∃ t∈ts,.slice J on L=t.1/\0<t.2.2/\oF (rd ds) t.2.1/\∀ u∈ts,0<u.2.2->oF (rd ds) u.2.1->¬ yJ u.2.1 t.2.1:=by
    rcases HX.out with⟨h,_⟩|⟨_,h⟩
    ·cases h
    ·exact h
   simp only at he;subst he
   have am:ds.length<ts.length:=by
    obtain⟨rest,h1,h2⟩:=G.out.len;have:=h2 _ A hk N
    have:0<rest.length:=List.length_pos_of_mem this;omega
   have HI:=qQ (HP.out.elem hB E A);obtain⟨K,hK⟩:∃ K,wt (rd ts) M=K:=⟨_,rfl⟩;have aa:Hid (Laid ts (ds++[(.slice J on L,M,K)])):=by rw[Hid,<-hK];exact G.out.more HH.out.1 A hk N ak
   have kw:=erQ B B (.slice a ts.length c) (.slice J on L) ts M wr (by omega) (HP.out.at hB E) HI.out HH.out.1 HH.out.2.1 K hK;have HT:=qQ A;clear A N ak hk hK;go_wp2_with fail;refine kw.mono ?_;rintro e w2 ⟨rfl,al⟩;have b5:Hid ((w2.alloc (.cells #[.slice J on L,int i64 K] 186)).ownsRow w.heap.size 186 2 (.slice da ds.length dc) ds.length (flat ds)):=dG HO.out (bal al _);have ag:=al.size;have bi:xQ w w2:=bt E al;clear kw;go_wp2_with (at_builtin;refine qF _ rfl _ _ 93 rfl w.heap.size 186 i0 (.agg #[.slice none 0 0,int i64 0]) 2 32 underlying93 cu cz d3 d4 rfl (by decide) _ _ _ rfl b5.out ⟨w2.heap.size,0,none⟩ 1 1 [.slice J on L,int i64 K] rfl ?q1 ?q2 ?q3 ?q4 ?q5 ?q6 ?_)
   case q1=>rfl
   case q2 =>
    intro j u hj
    match j,hj with
    | 0,hj=>simp at hj;subst hj;simp[go_sem,Addr.add]
    | 1,hj=>simp at hj;subst hj;simp[go_sem,Addr.add]
   case q3=>intro u hu;simp at hu;rcases hu with rfl|rfl <;> rfl
   case q4=>simp[maxLen];omega
   case q5=>omega
   case q6=>simp;omega
   intro v3 w3 a6 R bq
   have b6:Hid (w3.ownsRow w.heap.size 186 2 v3 (ds++[((.slice J on L,M,K):Tr)]).length (flat (ds++[(.slice J on L,M,K)]))):=by
    rw[Hid,<-y9];simpa using a6
   have H:xQ w w3:=(bal bi _).grown R (by simp;omega) (xJ b5.out);obtain⟨a3,c3,rfl⟩:=pI b6.out;clear a6 R bq;go_wp2_with fail;refine(erJ B _ _ ts M w3 (bQ hB H.size) (HP.out.at hB H) (HP.out.elem hB H HT.out)).mono ?_;rintro e w4 ⟨eb,f4,rfl,bm,⟨d6,db,d7,rfl⟩,bg⟩;have ck:=qQ (euX aa.out.rise bm);have cf:=qQ (dG b6.out bg);clear bm;go_wp2
   go_roundw
   case rel=>exact⟨_,f4,d6,db,d7,rfl,rfl,aa.out,ck.out,by simpa using cf.out,bt H bg⟩
   case measure=>simp[slen];omega
  | false =>
   have HG:=qQ (G.out.done HH.out.1 HX.out);have o:=HH.out.2.2;rw[HG.out] at o;by_cases I:ds=[]
   ·subst I
    obtain⟨rfl,rfl⟩:l=[]/\er=6:=by simp[mU,rd] at o;exact⟨o.1,o.2.symm⟩
    clear o HO HX G HG;go_wp2;exact eQ (v:=.tuple #[.slice none 0 0,int i64 6]) (by simp[results,results171,go_sem]) rfl ⟨_,[],rfl,rfl,.inl ⟨rfl,rfl⟩,E,fun t A=>by cases A⟩
   ·have a7:0<ds.length:=by cases ds with|nil=>exact absurd rfl I|cons _ _=>simp
    obtain⟨g,cap,hv,ai,bn,z⟩:=tT rfl HO.out (by intro h;simp only[yZ] at h;omega);simp only[yZ,true_and] at hv;obtain⟨rfl,rfl⟩:=hv;have am:ds.length<=1073741824:=by obtain⟨rest,h1,_⟩:=G.out.len;omega
    have b8:=qQ G.out.src;have af:tJ (rd ds):=fun q hq=>(G.out.wts q hq).2;have br:tot (rd ds)<=4611686018427387904:=by rw[<-HG.out,mE];exact HH.out.2.1
    have hI:∀ t∈ds,yQ wr wr.heap.size g t.1 t.2.1:=by
     intro d hd;obtain⟨t,A,e1,e2⟩:=G.out.src d hd;rw[<-e1,<-e2];exact(HP.out.elem hB E A).mono (bQ hB E.size) (.inr (by omega))
    have F:Hid (Row wr g 0 ds/\(∀ t∈ds,yQ wr wr.heap.size g t.1 t.2.1)/\tJ (rd ds)/\tot (rd ds)<=4611686018427387904/\mU (rd ds)=(l,er)):=⟨z,hI,af,br,o⟩;have ct:=z.lt;obtain⟨⟨s0,x0,k0⟩,a8⟩:=fX a7;obtain⟨a0,b0⟩:=z.cells 0 _ a8;simp only[zS,vX] at a0 b0;have cw:0<k0:=af (x0,k0) (qX (yV a8));have e5:k0<=4611686018427387904:=by have:=tJ.le_tot (Nn.of_pos af) (qX (yV a8));simp only at this;omega
    obtain⟨m0,rfl⟩:=nY (sL cw);have cd:=qQ (qX (yV a8));have dr:((ds.length:Int) == 0)=false:=by simp;exact I
    clear o HO HX G HG z hI af br a8 I;go_wp2
    go_loopw [7,40] (fun s u wq=>∃ (i q:Nat),s=int i64 (q:Int)/\u=int i64 (i:Int)/\i<=ds.length/\Nat.gcd (zG 0 ((rd ds).take i)) m0=q/\xQ wr wq) (fun _ u _=>ds.length - (intOf u).toNat)
    case atStart=>exact⟨0,m0,rfl,rfl,dQ _,by simp[zG],uQ _ _⟩
    case round =>
     obtain⟨i,q,rfl,rfl,e3,hq,O⟩:=hrel;have HQ:=qQ hq;have cy:1<=q:=by rw[<-hq];exact Nat.gcd_pos_of_pos_right _ (by omega)
     have e7:q<=m0:=by rw[<-hq];exact Nat.le_of_dvd (by omega) (Nat.gcd_dvd_right _ _)
     clear hq;by_cases h1:i<ds.length
     ·obtain⟨⟨s,M,k⟩,hs⟩:=fX h1
      obtain⟨sa,sc,he,_⟩:=F.out.2.1 _ (qX hs);simp only at he;subst he;obtain⟨c1,c2⟩:=F.out.1.cells.get O ct hs;simp only[vX] at c1 c2;have HZ:=qQ (yV hs);have U:0<k:=F.out.2.2.1 (M,k) (qX HZ.out)
      have aj:k<=4611686018427387904:=by
       have h1:=tJ.le_tot (Nn.of_pos F.out.2.2.1) (qX HZ.out);have h3:=F.out.2.2.2.1;simp only at h1;omega
      obtain⟨m,rfl⟩:=nY (sL U);have kc:=fun W=>rT m q (by omega) cy (by omega) W
      have HN:Hid (Nat.gcd (zG 0 ((rd ds).take (i+1))) m0=Nat.gcd m q):=by
       rw[Hid,bfX HZ.out,<-HQ.out];simp only[Int.natAbs_natCast];rw[Nat.gcd_comm _ m,Nat.gcd_assoc]
      clear hs;go_wp2_with (go_at_call 113;refine(kc _).mono ?_;rintro e w1 ⟨rfl,rfl⟩)
      go_roundw
      case rel=>exact⟨i+1,Nat.gcd m q,rfl,by go_num,h1,HN.out,bal O _⟩
      case measure=>simp[intOf];omega
     ·have an:q=dv (rd ds):=by
       rw[<-HQ.out,vD (by omega),fE,Nat.gcd_zero_left];exact Nat.gcd_eq_left (by have:=gE cd.out;simpa using this)
      have cb:=qQ an;have HR:=qQ (F.out.1.keep O);have HI:Hid (∀ t∈ds,yQ wr wr.heap.size g t.1 t.2.1):=fun t A=>(F.out.2.1 t A).at2 O;have P:xQ w wr:=bt E O;obtain⟨T,hT⟩:∃ T,tot (rd ds)=T:=⟨_,rfl⟩;have co:0<=T:=by rw[<-hT];exact(Nn.of_pos F.out.2.2.1).tot_nn
      have bf:T<=4611686018427387904:=by rw[<-hT];exact F.out.2.2.2.1
      obtain⟨tn,rfl⟩:=nY co;have Z:Own wr w.heap.size (.slice (some ⟨g,0,none⟩) ds.length dc) ds:=⟨g,0,dc,rfl,ai,am,bn,HR.out,HI.out⟩;have kt:=ahQ wr.heap.size _ ds wr (vQ _) Z.parts (Nn.of_pos F.out.2.2.1) (by rw[hT];exact bf) (tn:Int) hT;have Q:tot (cut (dv (rd ds)) (rd ds))=(tn:Int) / (q:Int):=by rw[avJ fun p hp=>zT hp,hT,an]
      have o:=F.out.2.2.2.2;have bp:rd ds≠[]:=by intro h;rw[<-yY,h] at a7;simp at a7
      rw[mU,zQ bp,Q,yY] at o;have G:=qQ o;have cr:(tn:Int) / (q:Int)<=4611686018427387904:=fK (qN _ (by omega)) bf;have I:0<=(tn:Int) / (q:Int):=wM (by omega) (by omega);obtain⟨D,hD⟩:∃ D,(tn:Int) / (q:Int)=D:=⟨_,rfl⟩;rw[hD] at G cr I;clear o Q bp hT Z an HQ;by_cases hm:1073741824<D
      ·have y:=G.out
       rw[jQ (.inl hm)] at y;simp only[cQ] at y;obtain⟨rfl,rfl⟩:=y;go_wp2_with (go_at_call 125;refine kt.mono ?_;rintro e w1 ⟨rfl,C⟩);exact eQ (v:=.tuple #[.slice none 0 0,int i64 4]) (by simp[results,results171,go_sem]) rfl ⟨_,[],rfl,rfl,.inl ⟨rfl,rfl⟩,bt P C,fun t A=>by cases A⟩
      ·by_cases cx:4096<ds.length
       ·have y:=G.out
        rw[jQ (.inr cx)] at y;simp only[cQ] at y;obtain⟨rfl,rfl⟩:=y;go_wp2_with (go_at_call 125;refine kt.mono ?_;rintro e w1 ⟨rfl,C⟩);exact eQ (v:=.tuple #[.slice none 0 0,int i64 4]) (by simp[results,results171,go_sem]) rfl ⟨_,[],rfl,rfl,.inl ⟨rfl,rfl⟩,bt P C,fun t A=>by cases A⟩
       ·have y:=G.out
        rw[zQ (by intro h;rcases h with h|h <;> omega)] at y;simp only[cQ] at y;obtain⟨y,rfl⟩:=y;have aa:=qQ y;clear y;go_wp2_with (go_at_call 125;refine kt.mono ?_;rintro e w1 ⟨rfl,C⟩);have ci:=qQ (HR.out.keep C);have cc:Hid (∀ t∈ds,yQ w1 w1.heap.size g t.1 t.2.1):=fun t A=>(HI.out t A).at2 C;have bh:xQ w w1:=bt P C;clear kt hD
        go_loopw [61] (fun u wz=>∃ j:Nat,u=int i64 (j:Int)/\j<=ds.length/\Row wz g 0 (jV q ds j)/\(∀ t∈ds,yQ wz wz.heap.size g t.1 t.2.1)/\xQ w wz) (fun u _=>ds.length - (intOf u).toNat)
        case atStart=>exact⟨0,rfl,dQ _,by rw[bgX];exact ci.out,cc.out,bh⟩
        case round =>
         obtain⟨j,rfl,e4,z,S,bj⟩:=hrel;have ac:=qQ z;have b3:=qQ S;clear z S;by_cases h2:j<ds.length
         ·obtain⟨⟨s,M,k⟩,hs⟩:=fX h2
          have ag:(jV q ds j)[j]? = some (s,M,k):=by rw[bfZ _ h2];exact hs
          obtain⟨c1,c2⟩:=ac.out.cells j _ ag;have c3:=ac.out.thaw (j*2+1) (by rw[dL];omega);simp only[vX] at c1 c2 c3;have U:0<k:=F.out.2.2.1 (M,k) (qX (yV hs))
          have aj:k<=4611686018427387904:=by
           have h1:=tJ.le_tot (Nn.of_pos F.out.2.2.1) (qX (yV hs));have h3:=F.out.2.2.2.1;simp only at h1;omega
          obtain⟨m,rfl⟩:=nY (sL U);have dz:((m:Int) / (q:Int))<=4611686018427387904:=fK (qN _ (by omega)) aj;have dj:0<=((m:Int) / (q:Int)):=wM (by omega) (by omega)
          have cj:Hid (Row (wr.setCell ⟨g,j*2+1,none⟩ (int i64 ((m:Int) / (q:Int)))) g 0 (jV q ds (j+1))):=by
           have:=ac.out.setW ag ((m:Int) / (q:Int));rw[show(jV q ds j).set j (s,M,(m:Int) / (q:Int))=jV q ds (j+1) from bfJ q hs,vX] at this;exact this
          clear hs ag;go_wp2
          go_roundw
          case rel=>exact⟨j+1,by go_num,h2,cj.out,fun t A=>by simpa using (b3.out t A).set rfl _,bj.setCell (by simp;omega) _⟩
          case measure=>simp[intOf];omega
         ·have hj:j=ds.length:=by omega
          subst hj;have hcut:rd (jV q ds ds.length)=l:=by rw[bgQ,cb.out,aa.out]
          have bc:∀ t∈jV q ds ds.length,yQ wr wr.heap.size g t.1 t.2.1:=by
           intro t A;obtain⟨u,hu,e1,e2⟩:=wT A;rw[e1,e2];exact b3.out u hu
          have cg:Hid (Own wr w.heap.size (.slice (some ⟨g,0,none⟩) ds.length dc) (jV q ds ds.length)):=⟨g,0,dc,by rw[dL],by rw[dL];exact ai,by rw[dL];exact am,bn,ac.out,bc⟩;have ca:=qQ hcut;clear hcut bc;go_wp2;exact eQ (v:=.tuple #[.slice (some ⟨g,0,none⟩) ds.length dc,int i64 0]) (by simp[results,results171,go_sem]) rfl ⟨_,_,rfl,ca.out,.inr cg.out,bj,fun t A=>by obtain⟨d,hd,e1,e2⟩:=wT A;obtain⟨u,hu,f1,f2⟩:=b8.out d hd;exact⟨u,hu,f1.trans e1.symm,f2.trans e2.symm⟩⟩
theorem nQ.more {W w':World}{lo:Nat}{v s:Value}{ds:List Tr}{xs:List Int}{k:Int}{m g cap:Nat}(h:nQ W lo v ds)(a:w'.ownsRow lo 186 2 (.slice (some ⟨g,0,none⟩) (ds.length+1) cap) (ds.length+1) (flat ds++[s,int i64 k]))(j:W.grownBy w' v.ownBlock)
  (i:v.ownBlock=some g\/g=W.heap.size) (hi:yQ W W.heap.size m s xs) (l:∀ g,v.ownBlock=some g->m=g):nQ w' lo (.slice (some ⟨g,0,none⟩) (ds.length+1) cap) (ds++[(s,xs,k)]) :=
 h.app a j (i.imp (fun e=>by rw[e];rfl) (fun e=>by rw[e];rfl)) hi l
theorem ahZ (B:Nat)(v:Value)(ts:List Tr)(w:World)(hB:B<=w.heap.size)(U:uX w B v ts)(l:List Pt)(er:Int)(V:iV (rd ts)=(l,er)) :
  Calls prog 122 #[v] w fun e w'=>∃ v' us,e=.returned (.tuple #[v',int i64 er])/\rd us=l/\uV w' w.heap.size v' us/\xQ w w'/\∀ t∈us,∃ u∈ts,u.1=t.1/\u.2.1=t.2.1:=by
 have P:=qQ U;obtain⟨a,c,rfl,hc,hl,_⟩:=U;have Q:=qQ V;clear V;go_enter func122,ntmps122;go_wp2
 go_loopw [8] (fun s wr=>∃ i:Nat,s=int i64 (i:Int)/\i<=ts.length/\((rd ts).take i).all gV=true/\xQ w wr) (fun s _=>ts.length - (intOf s).toNat)
 case atStart=>exact⟨0,rfl,dQ _,by simp,uQ _ _⟩
 case round =>
  obtain⟨i,rfl,a6,p,g⟩:=hrel;have O:=qQ p;clear p;by_cases S:i<ts.length
  ·obtain⟨b,o,sa,sc,j,k,rfl,hb,X,c1,c2,T⟩:=P.out.get hB g S
   have R:=qQ (yV X);have F:=qQ T;have D:=g.size;clear X T
   have bad:gV (j,k)=false->Hid (l=[]/\er=3):=by
    intro h;have m:=Q.out;rw[iV,xL R.out h] at m;simp only[Bool.false_eq_true,gK,cQ] at m;exact⟨m.1.symm,m.2.symm⟩
   obtain⟨r0,I⟩:∃ r0,Hid (qL j=r0):=⟨_,rfl⟩;have H:=fun W h=>erX B B (.slice sa j.length sc) j W h r0 I.out;cases r0 with
   | false =>
    obtain⟨rfl,rfl⟩:=(bad (by unfold gV;rw[show qL (j,k).1=false from I.out,Bool.and_false])).out;clear bad;go_wp2_with (go_at_call 170;refine(H _ ?_).mono ?_;(exact F.out.at (by omega) (ba _ _));rintro e N ⟨rfl,rfl⟩);exact eQ (v:=.tuple #[.slice none 0 0,int i64 3]) (by simp[results,results122,go_sem]) rfl ⟨_,[],rfl,rfl,.inl ⟨rfl,rfl⟩,bal g _,fun t ht=>by cases ht⟩
   | true =>
    by_cases a7:k<0
    ·obtain⟨rfl,rfl⟩:=(bad (by unfold gV;rw[show decide (0<=(j,k).2/\(j,k).2<=1073741824)=false from lZ (by simp;omega),Bool.false_and])).out
     clear bad;go_wp2_with (go_at_call 170;refine(H _ ?_).mono ?_;(exact F.out.at (by omega) (ba _ _));rintro e N ⟨rfl,rfl⟩);exact eQ (v:=.tuple #[.slice none 0 0,int i64 3]) (by simp[results,results122,go_sem]) rfl ⟨_,[],rfl,rfl,.inl ⟨rfl,rfl⟩,bal g _,fun t ht=>by cases ht⟩
    ·by_cases a8:1073741824<k
     ·obtain⟨rfl,rfl⟩:=(bad (by unfold gV;rw[show decide (0<=(j,k).2/\(j,k).2<=1073741824)=false from lZ (by simp;omega),Bool.false_and])).out
      clear bad;go_wp2_with (go_at_call 170;refine(H _ ?_).mono ?_;(exact F.out.at (by omega) (ba _ _));rintro e N ⟨rfl,rfl⟩);exact eQ (v:=.tuple #[.slice none 0 0,int i64 3]) (by simp[results,results122,go_sem]) rfl ⟨_,[],rfl,rfl,.inl ⟨rfl,rfl⟩,bal g _,fun t ht=>by cases ht⟩
     ·have Z:Hid (((rd ts).take (i+1)).all gV=true):=by
       rw[Hid,nN R.out,O.out];unfold gV;rw[show qL (j,k).1=true from I.out,show decide (0<=(j,k).2/\(j,k).2<=1073741824)=true from sJ (by simp;omega)];rfl
      clear bad;go_wp2_with (go_at_call 170;refine(H _ ?_).mono ?_;(exact F.out.at (by omega) (ba _ _));rintro e N ⟨rfl,rfl⟩)
      go_roundw
      case rel=>exact⟨i+1,by go_num,S,Z.out,bal g _⟩
      case measure=>simp[intOf];omega
  ·have G:(rd ts).all gV=true:=by have:=O.out;rwa [vD (by omega)] at this
   have m:=Q.out;rw[iV,G] at m;simp only[uA] at m;have Y:=euZ B _ ts wr (bQ hB g.size) (P.out.at hB g) (rP G).1 (bgZ G (by rw[yY];exact hl)) l er m;have D:=g.size;clear G m;go_wp2_with fail;refine Y.mono ?_;rintro e w3 ⟨v3,E,rfl,y,A,M,z⟩;have C:=qQ z;clear z;obtain⟨a3,c3,rfl⟩:=A.slice;have J:=qQ (A.mono D);have L:=qQ y;clear A y Y;go_wp2;exact eQ (v:=.tuple #[.slice a3 E.length c3,int i64 er]) (by simp[results,results122,go_sem]) rfl ⟨_,E,rfl,L.out,J.out,bt g M,C.out⟩
theorem euJ (B:Nat)(v:Value)(ts:List Tr)(w:World)(hB:B<=w.heap.size)(g:uX w B v ts)(l:List Pt)(er:Int)(h:iV (rd ts)=(l,er)) :
  Calls prog 122 #[v] w fun e w'=>∃ v' us,e=.returned (.tuple #[v',int i64 er])/\rd us=l/\uV w' w.heap.size v' us/\xQ w w' :=
 (ahZ B v ts w hB g l er h).mono fun _ _ ⟨a,b,h1,h2,h3,h4,_⟩=>⟨a,b,h1,h2,h3,h4⟩
theorem b0X (B:Nat)(u v:Value)(ts m:List Tr)(w:World)(hB:B<=w.heap.size)(U:uX w B u ts)(V:uX w B v m)(r:Bool)(X:decide (rd ts=rd m)=r) :
  Calls prog 123 #[u,v] w (iQ w (.bool r)):=by
 have HP:=qQ U;have HQ:=qQ V;have I:=qQ X;obtain⟨a,c,rfl,hc,hl,_⟩:=U;obtain⟨a2,c2,rfl,aa,af,_⟩:=V;clear X;by_cases g:ts.length=m.length
 ·have P:(((ts.length:Int)) == (m.length:Int))=true:=by simp[g]
  have E:(((ts.length:Int)) != (m.length:Int))=false:=by simp[g]
  have y:=qQ g;clear g;go_enter func123,ntmps123;go_wp2
  go_loopw [13] (fun s wr=>∃ i:Nat,s=int i64 (i:Int)/\i<=ts.length/\(rd ts).take i=(rd m).take i/\xQ w wr) (fun s _=>ts.length - (intOf s).toNat)
  case atStart=>exact⟨0,rfl,dQ _,by simp,uQ _ _⟩
  case round =>
   obtain⟨i,rfl,ae,G,l⟩:=hrel;have R:=qQ G;clear G;by_cases S:i<ts.length
   ·obtain⟨b,o,sa,sc,L,k,rfl,hb,Y,c1,a8,T⟩:=HP.out.get hB l S
    obtain⟨b2,o2,ah,ai,p,Z,rfl,a9,F,d1,d2,D⟩:=HQ.out.get hB l (i:=i) (by have:=y.out;omega);have M:=qQ (yV Y);have z:=qQ (yV F);have Q:=qQ T;have C:=qQ D;have z0:(0:Int)<=(i:Int):=by omega
    have z1:(i:Int)<(m.length:Int):=by have:=y.out;omega
    have z2:(i:Int)<(ts.length:Int):=by omega
    obtain⟨r1,H⟩:∃ r1,Hid (iZ L p=r1):=⟨_,rfl⟩;clear Y F T D;by_cases N:k=Z
    ·subst N
     have O:(k != k)=false:=by simp
     by_cases J:r1=0
     ·have hx:Hid (p=L):=((tK _ _).1 (H.out.trans J)).symm
      subst J;go_wp2_with fail;go_quiet ((go_at_call 17;refine Calls.quiet_of (nD B B B _ _ L p _ ?_ ?_ 0 H.out);exact Q.out.keep (below_drewN (uQ _ _) _);exact C.out.keep (below_drewN (uQ _ _) _)));go_wp2
      go_roundw
      case rel=>exact⟨i+1,by go_num,S,bgJ R.out M.out (by rw[z.out,hx.out]),below_drewN l _⟩
      case measure=>simp[intOf];omega
     ·have ac:(r1 != 0)=true:=by simpa using J
      have j:r=false:=by
       rw[<-I.out];refine lZ fun h=>J ?_;have A:=M.out;rw[h,z.out] at A;simp only[aZ,cQ] at A;rw[<-H.out,A.1];exact aP _
      subst j;go_wp2_with fail;go_quiet ((go_at_call 17;refine Calls.quiet_of (nD B B B _ _ L p _ ?_ ?_ r1 H.out);exact Q.out.keep (below_drewN (uQ _ _) _);exact C.out.keep (below_drewN (uQ _ _) _)));go_wp2;go_ret;exact⟨rfl,below_drewN l _⟩
    ·have O:(k != Z)=true:=by simpa using N
     have j:r=false:=by
      rw[<-I.out];refine lZ fun h=>N ?_;have A:=M.out;rw[h,z.out] at A;simp only[aZ,cQ] at A;exact A.2.symm
     subst j;go_wp2_with fail;go_quiet (fail);go_wp2;go_ret;exact⟨rfl,below_drewN l _⟩
   ·have j:r=true:=by
     rw[<-I.out];refine sJ ?_;have:=R.out;rwa [vD (by omega),vD (by have:=y.out;omega)] at this
    subst j;go_wp2;go_ret;exact⟨rfl,l⟩
 ·have P:(((ts.length:Int)) == (m.length:Int))=false:=by simp;omega
  have E:(((ts.length:Int)) != (m.length:Int))=true:=by simp;omega
  have j:r=false:=by
   rw[<-I.out];refine lZ fun h=>g ?_;rw[<-yY,h,yY]
  subst j;go_enter func123,ntmps123;go_wp2;go_ret;exact⟨rfl,uQ _ _⟩
def pD (w:World) (l:List Pt) (er:Int) (e:Ending) (w':World):Prop :=
 ∃ v' us,e=.returned (.tuple #[v',int i64 er])/\rd us=l/\uV w' w.heap.size v' us/\xQ w w'/\dZ w.heap.size us
theorem pD.err (a:xQ w w'):pD w [] er (.returned (.tuple #[.slice none 0 0,int i64 er])) w' :=
 ⟨_,[],rfl,rfl,.inl ⟨rfl,rfl⟩,a,dZ.nil _⟩
theorem ahJ (h:x<=1073741824):lim x=x:=jQ h
theorem evQ (x m:Int)(a:0<=m)(j:m<=4096)(i:1<=x)(h:x<=1073741824)(g:eX x m<=1073741824)(w:World) :
  Calls prog 168 #[int i64 x,int i64 m] w fun e w'=>e=.returned (int i64 (eX x m))/\w' = w:=by
 obtain⟨n,rfl⟩:=nY a;exact oB x n (by omega) i h _ (ahJ g) w
theorem evX (W:World)(s:Value)(k:Int)(n:Nat)(g:W.heap.size=n):∀ j u,[s,Value.int .i64 k][j]? = some u->(W.alloc (.cells #[s,int i64 k] 186)).cell? ((⟨n,0,none⟩:Addr).add j)=some u:=by
 subst g;intro j u a
 match j,a with
 | 0,a=>simp at a;subst a;simp[go_sem,Addr.add]
 | 1,a=>simp at a;subst a;simp[go_sem,Addr.add]
theorem evZ (u d lo n:Int)(R a:Nat)(bh:1<=R)(hR:R<=64)(ha:a<=R)(C:zU lo (lo+(R:Int)) n=lo+(a:Int))(he:kG u d=0)(hd:1<=d)(a6:d<=u)(hu:u<=1073741824)(hm:(u+d)*u ^ R<=1073741824)(df:-1073741824<=lo)(dd:lo+(R:Int)<=1073741824)(l:List Pt)(er:Int)(hr:iV (nA u d lo R a)=(l,er))(w:World) :
  Calls prog 118 #[rv u d,int i64 lo,int i64 (lo+(R:Int)),int i64 n] w (pD w l er):=by
 have kc:=ahX u d 0 he;have HM:=qQ hm;have HR:=qQ hr;have Q:=qQ C;obtain⟨i0,bv,c6,c7,c8⟩:=pZ gM;have cy:(lo == lo+(R:Int))=false:=by simp;omega
 obtain⟨X,hX⟩:∃ X,u ^ R=X:=⟨_,rfl⟩;have bm:1<=X:=by rw[<-hX];exact uD (by omega) R
 have bn:X*(u+d)<=1073741824:=by rw[Int.mul_comm,<-hX];exact hm
 have af:X<=1073741824:=by have:=tR (show 1<=u+d by omega) (show 0<=X by omega);omega
 have bp:0<=X*(u+d):=by have:=tR (show 1<=u+d by omega) (show 0<=X by omega);omega
 have di:decide (1073741824<X)=false:=by simp;omega
 have dj:decide (1073741824<X*(u+d))=false:=by simp;omega
 have kp:∀ (m:Int) (W:World),m=(R:Int)->Calls prog 168 #[int i64 u,int i64 m] W fun e w'=>e=.returned (int i64 X)/\w' = W:=fun m W hm=>by
  subst hm;exact oB u R (by omega) (by omega) hu X (by rw[hX,ahJ af]) W
 have wA:IntKind.i64.wrap (lo+(R:Int) - lo)=lo+(R:Int) - lo:=by rw[lJ];omega
 have wB:IntKind.i64.wrap (u+d)=u+d:=by rw[lJ];omega
 have wC:IntKind.i64.wrap (X*(u+d))=X*(u+d):=by rw[lJ];omega
 clear he hX hr C hm;go_enter func118,ntmps118;go_wp2_with fail;refine(kc _).mono ?_;rintro e w1 ⟨rfl,I⟩;have G1:=bt (ba _ _) I;obtain⟨Z,bq⟩:=bcell I;have d1:w1.cell? ⟨w.heap.size,0,none⟩=some (int i64 u):=by rw[Z _ _ (by simp)];simp[go_sem]
 have d2:w1.cell? ⟨w.heap.size,1,none⟩=some (int i64 d):=by rw[Z _ _ (by simp)];simp[go_sem]
 have N:w.heap.size<w1.heap.size:=by have:=I.size;simp at this;omega
 clear Z bq kc I;go_wp2_with fail
 go_region_held3 (fun w'=>w'.cell? ⟨w.heap.size,0,none⟩=some (int i64 u)/\w'.cell? ⟨w.heap.size,1,none⟩=some (int i64 d))
  ((go_split_ands;refine⟨?_,?_⟩ <;> first|assumption|(simp[go_sem, *];done)))
  ((go_at_call 168;refine(kp _ _ (by omega)).mono ?_;rintro x1 E ⟨rfl,rfl⟩))
 obtain⟨E,a7⟩:∃ E,w1.drew=E:=⟨_,rfl⟩;have F:xQ w1 E:=a7▸(uQ _ _).drew;rw[a7];have G2:=bt G1 F;have p1:E.cell? ⟨w.heap.size,0,none⟩=some (int i64 u):=(F.cell (p:=⟨w.heap.size,0,none⟩) N).trans d1;have p2:E.cell? ⟨w.heap.size,1,none⟩=some (int i64 d):=(F.cell (p:=⟨w.heap.size,1,none⟩) N).trans d2;have D:w.heap.size<E.heap.size:=by have:=F.size;omega
 clear a7 kp wA wB wC bm af bn bp d1 d2 G1 F;go_upto_if 71 with fail
 go_cut [3] (fun nv wx=>nv=int i64 (max n lo)/\E=wx)
 case first =>
  by_cases hn:n<lo
  ·go_wp2
   go_meet
   case rel=>exact⟨by congr 1;omega,rfl⟩
  ·go_wp2
   go_meet
   case rel=>exact⟨by congr 1;omega,rfl⟩
 case rest =>
 obtain⟨rfl,rfl⟩:=hcut;go_upto_if 75 with fail
 go_cut [3] (fun nv wx=>nv=int i64 (lo+(a:Int))/\E=wx)
 case first =>
  by_cases hn:lo+(R:Int)<max n lo
  ·go_wp2
   go_meet
   case rel=>exact⟨by congr 1;have:=Q.out;unfold zU at this;omega,rfl⟩
  ·go_wp2
   go_meet
   case rel=>exact⟨by congr 1;have:=Q.out;unfold zU at this;omega,rfl⟩
 case rest =>
 obtain⟨rfl,rfl⟩:=hcut;clear Q;go_wp2_with fail
 go_loopw [11,12] (fun pv zv wr=>∃ (i:Nat) (ds:List Tr),zv=int i64 (lo+(i:Int))/\i<=R+1/\Hid (rd ds=(nA u d lo R a).take i/\ds.length=i)/\Hid (nQ wr E.heap.size pv ds)/\Hid (dZ w.heap.size ds)/\xQ E wr) (fun _ zv _=>((lo+(R:Int)+1) - intOf zv).toNat)
 case atStart=>exact⟨0,[],by simp,dQ _,⟨by simp[rd],rfl⟩,nQ.nil _ _,dZ.nil _,uQ _ _⟩
 case round =>
  obtain⟨i,ds,rfl,de,HD,T,a9,G⟩:=hrel;have dc:=G.size;have C:=T.out.lt;obtain⟨pa,pc,rfl⟩:=T.out.slice;have O:Hid (ds.length<=65):=by have:=HD.out.2;show ds.length<=65;omega
  have c1:wr.cell? ⟨w.heap.size,0,none⟩=some (int i64 u):=(G.cell (p:=⟨w.heap.size,0,none⟩) D).trans p1;have c2:wr.cell? ⟨w.heap.size,1,none⟩=some (int i64 d):=(G.cell (p:=⟨w.heap.size,1,none⟩) D).trans p2;by_cases h1:i<=R
  ·have k5:∀ A B,((wr.drew.alloc A).alloc B).cell? ⟨w.heap.size,0,none⟩=some (int i64 u):=fun A B=>((bal (bal (uQ wr.heap.size wr).drew A) B).cell (p:=⟨w.heap.size,0,none⟩) (show w.heap.size<wr.heap.size by omega)).trans c1
   have k6:∀ A B,((wr.drew.alloc A).alloc B).cell? ⟨w.heap.size,1,none⟩=some (int i64 d):=fun A B=>((bal (bal (uQ wr.heap.size wr).drew A) B).cell (p:=⟨w.heap.size,1,none⟩) (show w.heap.size<wr.heap.size by omega)).trans c2;have k3:∀ A,(wr.drew.alloc A).cell? ⟨w.heap.size,0,none⟩=some (int i64 u):=fun A=>((bal (uQ wr.heap.size wr).drew A).cell (p:=⟨w.heap.size,0,none⟩) (show w.heap.size<wr.heap.size by omega)).trans c1;have k4:∀ A,(wr.drew.alloc A).cell? ⟨w.heap.size,1,none⟩=some (int i64 d):=fun A=>((bal (uQ wr.heap.size wr).drew A).cell (p:=⟨w.heap.size,1,none⟩) (show w.heap.size<wr.heap.size by omega)).trans c2;have J:Hid (∀ g,(Value.slice pa ds.length pc).ownBlock=some g->E.heap.size<=g):=fun g e=>(C g e).1;obtain⟨mo,dg,ai⟩:=k9 (n:=wr.heap.size) (fun g e=>(C g e).2) (by omega);have b6:=qQ ai
   have HI:Hid (yQ (wr.drew.alloc (.cells #[int i64 (lo+(i:Int))] 3)) (wr.drew.alloc (.cells #[int i64 (lo+(i:Int))] 3)).heap.size mo (.slice (some ⟨wr.heap.size,0,none⟩) 1 1) [lo+(i:Int)]):=by
    have:=vB wr.drew (lo+(i:Int)) mo (by show mo≠wr.heap.size;omega);rw[Hid,show(wr.drew.alloc (.cells #[int i64 (lo+(i:Int))] 3)).heap.size=wr.drew.heap.size+1 by simp];exact this
   clear C ai HR;obtain⟨M,hM⟩:∃ M:Int,M=max (lo+(i:Int) - (lo+(a:Int))) (lo+(a:Int) - (lo+(i:Int))):=⟨_,rfl⟩;have P:=qQ hM;have d6:0<=M:=by omega
   have d7:M=lo+(i:Int) - (lo+(a:Int))\/M=lo+(a:Int) - (lo+(i:Int)):=by omega
   clear hM;obtain⟨V,HV⟩:∃ V:Int,Hid (V=if i=0\/i=R then u else u - d):=⟨_,rfl⟩;have bj:0<=V:=by rw[HV.out];split <;> omega
   have db:V<=1073741824:=by rw[HV.out];split <;> omega
   go_upto_if 87 with fail
   go_cut [13] from 78 to 125 (fun kv wx=>kv=int i64 M/\wr=wx)
   case first =>
    by_cases hk:lo+(i:Int) - (lo+(a:Int))<0
    ·go_wp2
     go_meet
     case rel=>exact⟨by congr 1;have:=P.out;omega,rfl⟩
    ·go_wp2
     go_meet
     case rel=>exact⟨by congr 1;have:=P.out;omega,rfl⟩
   case rest =>
   obtain⟨rfl,rfl⟩:=hcut;clear P;obtain⟨U,z⟩:∃ U:Bool,Hid (U=decide (i=0\/i=R)):=⟨_,rfl⟩;go_upto_region 22 with fail
   go_cut [102] from 78 to 125 (fun cv wx=>cv=.bool U/\wr=wx)
   case first =>
    by_cases e1:i=0
    ·have y1:(lo+(i:Int) == lo)=true:=by simp;omega
     have H:Hid (U=true):=by rw[Hid,z.out];exact sJ (.inl e1)
     clear e1;go_wp2;go_meet
     case rel=>exact⟨by rw[H.out],rfl⟩
    ·by_cases e2:i=R
     ·have y1:(lo+(i:Int) == lo)=false:=by simp;omega
      have y2:(lo+(i:Int) == lo+(R:Int))=true:=by simp;omega
      have H:Hid (U=true):=by rw[Hid,z.out];exact sJ (.inr e2)
      clear e2;go_wp2;go_meet
      case rel=>exact⟨by rw[H.out],rfl⟩
     ·have y1:(lo+(i:Int) == lo)=false:=by simp;omega
      have y2:(lo+(i:Int) == lo+(R:Int))=false:=by simp;omega
      have H:Hid (U=false):=by rw[Hid,z.out];exact lZ (by omega)
      go_wp2;go_meet
      case rel=>exact⟨by rw[H.out],rfl⟩
   case rest =>
   obtain⟨rfl,rfl⟩:=hcut;go_upto_if 102 with fail
   go_cut [14] from 78 to 125 (fun vv wx=>vv=int i64 V/\wr=wx)
   case first =>
    cases U with
    | true =>
     have H:Hid (V=u):=by rw[Hid,HV.out,jQ (tD z.out.symm)]
     clear z;go_wp2;go_meet
     case rel=>exact⟨by rw[H.out],rfl⟩
    | false =>
     have H:Hid (V=u - d):=by rw[Hid,HV.out,zQ (tL z.out.symm)]
     clear z;go_wp2;go_meet
     case rel=>exact⟨by rw[H.out],rfl⟩
   case rest =>
   obtain⟨rfl,rfl⟩:=hcut;have bf:1<=eX d M:=uD hd _;have bi:1<=eX u (lo+(R:Int) - lo - M):=uD (by omega) _
   have e1:gk u d R (i - a+(a - i))=eX d M*eX u (lo+(R:Int) - lo - M):=by
    unfold gk eX;rw[show M.toNat=i - a+(a - i) by omega,show(lo+(R:Int) - lo - M).toNat=R - (i - a+(a - i)) by omega]
   have HG:Hid (hwt u d R a i=V*eX d M*eX u (lo+(R:Int) - lo - M)):=by
    show _=_
    unfold hwt;rw[<-HV.out,e1,Int.mul_comm,pK]
   have br:eX d M*eX u (lo+(R:Int) - lo - M)<=1073741824:=by
    have b1:=boQ hd a6 (R:=R) (k:=0) (s:=i - a+(a - i)) (by omega);rw[vX,d9,e1] at b1;have b2:=uD (show 1<=u by omega) R;have b3:=rR (show 1<=u+d by omega) (show 0<=u ^ R by omega);have:=HM.out;omega
   have bg:eX d M<=1073741824:=by
    have:=tR bi (show 0<=eX d M by omega);omega
   have da:eX u (lo+(R:Int) - lo - M)<=1073741824:=by
    have:=rR bf (show 0<=eX u (lo+(R:Int) - lo - M) by omega);omega
   have ac:0<=V*eX d M:=sD bj (by omega);have ae:V*eX d M<=1073741824*1073741824:=nH (by omega) bg (by omega) (by omega)
   have bk:0<=V*eX d M*eX u (lo+(R:Int) - lo - M)/\V*eX d M*eX u (lo+(R:Int) - lo - M)<=1073741824:=by
    have e1:=bzJ hd a6 R a i;have e2:=etZ hd a6 ha bh h1;have:=HM.out;rw[HG.out] at e1 e2;omega
   have cz:M<=4096:=by omega
   have d3:0<=lo+(R:Int) - lo - M:=by omega
   have d4:lo+(R:Int) - lo - M<=4096:=by omega
   have wE:IntKind.i64.wrap (lo+(R:Int) - lo)=lo+(R:Int) - lo:=by rw[lJ];omega
   have wF:IntKind.i64.wrap (lo+(R:Int) - lo - M)=lo+(R:Int) - lo - M:=by rw[lJ];omega
   have wP:IntKind.i64.wrap (V*eX d M)=V*eX d M:=by rw[lJ];omega
   have wQ:IntKind.i64.wrap (V*eX d M*eX u (lo+(R:Int) - lo - M))=V*eX d M*eX u (lo+(R:Int) - lo - M):=by rw[lJ];omega
   clear bk br ac ae e1;go_wp2_with fail
   go_region_held3 (fun w'=>w'.cell? ⟨w.heap.size,0,none⟩=some (int i64 u)/\w'.cell? ⟨w.heap.size,1,none⟩=some (int i64 d))
    ((go_split_ands;refine⟨?_,?_⟩ <;> first|assumption|(exact k3 _)|(exact k4 _)|(exact k5 _ _)|(exact k6 _ _)|(simp[go_sem, *];done)))
    (first
     | (go_at_call 168;refine(evQ _ _ ?_ ?_ ?_ ?_ ?_ _).mono ?_;(assumption);(assumption);(omega);(omega);(assumption);rintro x3 w3 ⟨rfl,rfl⟩)
     | (refine cN _ rfl _ _ 92 rfl E.heap.size 186 i0 (.agg #[.slice none 0 0,int i64 0]) 2 32 underlying92 bv c6 c7 c8 rfl (by decide) (.slice pa ds.length pc) ds.length (flat ds) rfl ?_ ⟨wr.heap.size+1,0,none⟩ 1 1 [.slice (some ⟨wr.heap.size,0,none⟩) 1 1,int i64 (V*eX d M*eX u (lo+(R:Int) - lo - M))] rfl rfl ?_ ?_ (by decide) ?_ ?_ ?_ (wr.heap.size+1+1) ?_ ?_;(exact(T.out.keep (bal (bal (uQ _ _).drew _) _)).1);(exact evX _ _ _ _ (by simp));(intro u hu;simp at hu;rcases hu with rfl | rfl <;> rfl);(have:=O.out;simp[maxLen];omega);(have:=O.out;omega);(simp;omega);(simp);intro g cap w4 L j ag bw;have k7:w4.cell? ⟨w.heap.size,0,none⟩=some (int i64 u):=j.cell (k5 _ _) (fun e=>absurd (J.out w.heap.size e.symm) (Nat.not_le_of_lt D));have k8:w4.cell? ⟨w.heap.size,1,none⟩=some (int i64 d):=j.cell (k6 _ _) (fun e=>absurd (J.out w.heap.size e.symm) (Nat.not_le_of_lt D))))
   all_goals
    have Y:xQ wr ((wr.drew.alloc (.cells #[int i64 (lo+(i:Int))] 3)).alloc (.cells #[.slice (some ⟨wr.heap.size,0,none⟩) 1 1,int i64 (V*eX d M*eX u (lo+(R:Int) - lo - M))] 186)):=bal (bal (uQ _ _).drew _) _;have S:=qQ (T.out.keep Y)
    have bc:Hid (nQ w4 E.heap.size (.slice (some ⟨g,0,none⟩) (ds.length+1) cap) (ds++[(.slice (some ⟨wr.heap.size,0,none⟩) 1 1,[lo+(i:Int)],V*eX d M*eX u (lo+(R:Int) - lo - M))])) :=
     S.out.more L j (ag.imp id fun e=>by rw[e];simp) (HI.out.at2 (ba _ _)) b6.out
    have aw:=qQ ((bt G Y).grown j (by simp;omega) (xJ S.out.1))
    have ax:Hid (rd (ds++[((.slice (some ⟨wr.heap.size,0,none⟩) 1 1,[lo+(i:Int)],V*eX d M*eX u (lo+(R:Int) - lo - M)):Tr)])=(nA u d lo R a).take (i+1)/\(ds++[((.slice (some ⟨wr.heap.size,0,none⟩) 1 1,[lo+(i:Int)],V*eX d M*eX u (lo+(R:Int) - lo - M)):Tr)]).length=i+1):=by
     refine⟨?_,by simp[HD.out.2]⟩;rw[jB h1,<-HD.out.1,HG.out];simp only[rd,iA,aI,iC]
    have ay:Hid (dZ w.heap.size (ds++[(.slice (some ⟨wr.heap.size,0,none⟩) 1 1,[lo+(i:Int)],V*eX d M*eX u (lo+(R:Int) - lo - M))])):=by
     intro t ht;rcases aV.1 ht with h|h
     ·exact a9.out t h
     ·obtain rfl:t=(.slice (some ⟨wr.heap.size,0,none⟩) 1 1,[lo+(i:Int)],V*eX d M*eX u (lo+(R:Int) - lo - M)):=by simpa using h
      intro _ b o sp n c e;simp only[yZ,aZ,dD] at e;omega
    clear Y S L j ag bw k7 k8 wE wF wP wQ T HD;go_wp2
    go_roundw
    case rel=>exact⟨i+1,_,by go_num,by omega,ax,bc,ay,aw.out⟩
    case measure=>simp[intOf];omega
  ·have HF:Hid (rd ds=nA u d lo R a):=by rw[Hid,HD.out.1,boZ (by omega)]
   have b8:=qQ (T.out.parts (by have:=O.out;omega));have kc:=ahZ wr.heap.size (.slice pa ds.length pc) ds wr (vQ _) b8.out l er (by rw[HF.out];exact HR.out);clear T HD C HF HM HR;go_wp2_with fail;refine kc.mono ?_;rintro e w5 ⟨v5,xs,rfl,k1,k2,k3,k4⟩;obtain⟨b5,d5,rfl⟩:=k2.slice;have c9:w.heap.size<=wr.heap.size:=by omega
   have HZ:Hid (pD w l er (.returned (.tuple #[.slice b5 xs.length d5,int i64 er])) w5):=⟨_,xs,rfl,k1,k2.mono c9,bt (bt G2 G) k3,a9.out.of fun t ht=>let ⟨y,h1,h2,h3⟩:=k4 t ht;⟨y,h1,h2.symm,h3.symm⟩⟩;clear kc k1 k2 k3 k4;go_wp2;exact eQ (v:=.tuple #[.slice b5 xs.length d5,int i64 er]) (by simp[results,results118,go_sem]) rfl HZ.out
