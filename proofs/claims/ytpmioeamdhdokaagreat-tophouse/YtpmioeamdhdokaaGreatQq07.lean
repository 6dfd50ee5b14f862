import Derived.Test.YtpmioeamdhdokaaGreatQq06
import Derived.BigRegion
open Go.Proofs.Tryz
set_option linter.unusedSimpArgs false
set_option maxHeartbeats 16000000
set_option maxRecDepth 100000
namespace Go.Proofs.YtpmioeamdhdokaaGreat
variable {B E N R c i j nb t:Nat} {l o xs y:List Int} {T g k node pl u:Int} {r:Option Nat} {b w w':World} {a:Option Addr} {p:Addr} {s v:Value}
section
open Go.RowKit Ds
theorem chZ {α:Type}{l k:List α}{x:α}(h:l.take i=k.take i)(hl:l[i]? = some x)(hk:k[i]? = some x):l.take (i+1)=k.take (i+1):=by
 rw[gZ,gZ,h,hl,hk]
theorem asZ (B:Nat)(u v:Value)(ts us:List Tr)(w:World)(hB:B<=w.heap.size)(hp:fQ w B u ts)(hq:fQ w B v us)(r:Bool)(hr:decide (rd ts=rd us)=r) :
  Calls prog 87 #[u,v,.func (.func 88) #[] #[]] w fun e w'=>e=.returned (.bool r)/\Below w.heap.size w w':=by
 have HP:=qQ hp;have HQ:=qQ hq;have HR:=qQ hr;obtain⟨a,c,rfl,hc,hl,_⟩:=hp;obtain⟨a2,c2,rfl,hc2,hl2,_⟩:=hq;clear hr;by_cases hlen:ts.length=us.length
 ·have hle:(((ts.length:Int)) == (us.length:Int))=true:=by simp[hlen]
  have hle2:(((ts.length:Int)) != (us.length:Int))=false:=by simp[hlen]
  have HLN:=qQ hlen;clear hlen;go_enter func87,ntmps87;go_wp2
  go_loopw [17] (fun s wr=>∃ i:Nat,s=.int .i64 (i:Int)/\i<=ts.length/\(rd ts).take i=(rd us).take i/\Below w.heap.size w wr) (fun s _=>ts.length - (intOf s).toNat)
  case atStart=>exact⟨0,rfl,kQ _,by simp,aQ _ _⟩
  case round =>
   obtain⟨i,rfl,hit,htk,hbl⟩:=hrel;have HT:=qQ htk;clear htk;by_cases h1:i<ts.length
   ·obtain⟨b,o,sa,sc,xs,k,rfl,hb,hs,c1,c2',hI⟩:=HP.out.get hB hbl h1
    obtain⟨b2,o2,sa2,sc2,xs2,k2,rfl,hb2,hs2,d1,d2,hI2⟩:=HQ.out.get hB hbl (i:=i) (by have:=HLN.out;omega);have HS:=qQ (pV hs);have HS2:=qQ (pV hs2);have HI:=qQ hI;have HI2:=qQ hI2;have hs1:=hbl.size;have z1:(i:Int)<(us.length:Int):=by have:=HLN.out;omega
    have n1:b<wr.heap.size:=by omega
    have n2:b2<wr.heap.size:=by omega
    clear hs hs2 hI hI2;by_cases he:k=k2/\xs=xs2
    ·have hd:Hid (decide (k=k2/\xs=xs2)=true):=xG he
     have HE:Hid ((xs2,k2)=(xs,k)):=by rw[Hid,he.1,he.2]
     clear he;go_wp2_with (go_at_call 88;refine(aqZ B B B _ _ _ _ xs xs2 _ ?_ ?_ ?_ _ hd.out).mono ?_;(simp;omega);(exact HI.out.at (by omega) (bal (ba _ _) _));(exact HI2.out.at (by omega) (bal (ba _ _) _));rintro e w1 ⟨rfl,hb1⟩)
     go_roundw
     case rel=>exact⟨i+1,by go_num,h1,chZ HT.out HS.out (by rw[HS2.out,HE.out]),bt (bal (bal hbl _) _) hb1⟩
     case measure=>simp[intOf];omega
    ·have hd:Hid (decide (k=k2/\xs=xs2)=false):=oV he
     have hr1:r=false:=by
      rw[<-HR.out];refine oV fun h=>he ?_;have h2:=HS.out;rw[h,HS2.out] at h2;simp only[xX,dQ] at h2;exact⟨h2.2.symm,h2.1.symm⟩
     subst hr1;clear he;go_wp2_with (go_at_call 88;refine(aqZ B B B _ _ _ _ xs xs2 _ ?_ ?_ ?_ _ hd.out).mono ?_;(simp;omega);(exact HI.out.at (by omega) (bal (ba _ _) _));(exact HI2.out.at (by omega) (bal (ba _ _) _));rintro e w1 ⟨rfl,hb1⟩);go_ret;exact⟨rfl,bt (bal (bal hbl _) _) hb1⟩
   ·have hr1:r=true:=by
     rw[<-HR.out];refine xG ?_;have:=HT.out;rwa [uL (by omega),uL (by have:=HLN.out;omega)] at this
    subst hr1;go_wp2;go_ret;exact⟨rfl,hbl⟩
 ·have hle:(((ts.length:Int)) == (us.length:Int))=false:=by simp;omega
  have hle2:(((ts.length:Int)) != (us.length:Int))=true:=by simp;omega
  have hr1:r=false:=by
   rw[<-HR.out];refine oV fun h=>hlen ?_;rw[<-rV,h,rV]
  subst hr1;go_enter func87,ntmps87;go_wp2;go_ret;exact⟨rfl,aQ _ _⟩
def pX (l:List Pt):List Pt × Int:=if (yY l).2=0 then if (yY l).1=l then (l,0) else ([],2) else ([],(yY l).2)
theorem chJ (l:List Pt):(bU l).2=0\/(bU l).1=[]:=by
 unfold bU;split
 ·exact .inr rfl
 ·split
  ·exact .inr rfl
  ·exact .inl rfl
theorem ciQ (l:List Pt):(yY l).2=0\/(yY l).1=[]:=by
 unfold yY;split
 ·exact chJ _
 ·exact .inr rfl
theorem asJ (B:Nat)(v:Value)(ts:List Tr)(w:World)(hB:B<=w.heap.size)(hp:fQ w B v ts)(l:List Pt)(er:Int)(hr:pX (rd ts)=(l,er)) :
  Calls prog 42 #[v] w fun e w'=>∃ v' us,e=.returned (.tuple #[v',.int .i64 er])/\rd us=l/\oX w' w.heap.size v' us/\Below w.heap.size w w'/\sQ w.heap.size us:=by
 have HP:=qQ hp;obtain⟨a,c,rfl,hc,hl,_⟩:=hp;obtain⟨⟨m,e1⟩,hm⟩:∃ m,yY (rd ts)=m:=⟨_,rfl⟩;have kc:=mW B _ ts w hB HP.out m e1 hm;have hme:=ciQ (rd ts);rw[pX,hm] at hr;rw[hm] at hme;simp only at hr hme;have HR:Hid ((if e1=0 then if m=rd ts then (rd ts,0) else ([],2) else ([],e1))=(l,er)/\(e1=0\/m=[])):=⟨hr,hme⟩;clear hr hme hm;go_enter func42,ntmps42;go_wp2_with fail;refine kc.mono ?_;rintro e w1 ⟨v1,us,rfl,hrd,ho,hb1,hfr⟩;have HFR:=qQ hfr;clear hfr;have HO:=qQ ho;have HD:=qQ hrd;obtain⟨a1,c1,rfl⟩:=ho.slice;clear ho hrd kc;by_cases h0:e1=0
 ·subst h0
  have hP1:fQ w1 w1.heap.size (.slice a ts.length c) ts:=(HP.out.at hB hb1).mono (bQ hB hb1.size);by_cases h2:m=rd ts
  ·have h3:=HR.out.1
   rw[zQ rfl,zQ h2] at h3;simp only[dQ] at h3;obtain⟨h3,rfl⟩:=h3;have HL:Hid (rd us=l):=by rw[Hid,HD.out,h2,h3]
   have ke:=asZ w1.heap.size _ _ ts us w1 (vQ _) hP1 HO.out.parts true (xG (by rw[HD.out,h2]));clear h2 h3 hP1;go_wp2_with fail;refine ke.mono ?_;rintro e w2 ⟨rfl,hb2⟩;clear ke;go_wp2;exact uQ (v:=.tuple #[.slice a1 us.length c1,.int .i64 0]) (by simp[results,results42,go_sem]) rfl ⟨_,us,rfl,HL.out,HO.out.keep hb2,bt hb1 hb2,HFR.out⟩
  ·have h3:=HR.out.1
   rw[zQ rfl,xQ h2] at h3;simp only[dQ] at h3;obtain⟨rfl,rfl⟩:=h3;have ke:=asZ w1.heap.size _ _ ts us w1 (vQ _) hP1 HO.out.parts false (oV (by rw[HD.out];exact fun h=>h2 h.symm));clear h2 hP1;go_wp2_with fail;refine ke.mono ?_;rintro e w2 ⟨rfl,hb2⟩;clear ke;go_wp2;exact uQ (v:=.tuple #[.slice none 0 0,.int .i64 2]) (by simp[results,results42,go_sem]) rfl ⟨_,[],rfl,rfl,.inl ⟨rfl,rfl⟩,bt hb1 hb2,sQ.nil _⟩
 ·have h3:=HR.out.1
  have h4:=HR.out.2;rw[xQ h0] at h3;simp only[dQ] at h3;obtain⟨rfl,rfl⟩:=h3
  have HL:Hid (rd us=[]):=by
   rcases h4 with h|h
   ·exact absurd h h0
   ·rw[Hid,HD.out,h]
  have h0':(e1 == 0)=false:=by simpa using h0
  clear h4;go_wp2;exact uQ (v:=.tuple #[.slice a1 us.length c1,.int .i64 e1]) (by simp[results,results42,go_sem]) rfl ⟨_,us,rfl,HL.out,HO.out,hb1,HFR.out⟩
theorem zR (B:Nat)(v:Value)(ts:List Tr)(w:World)(hB:B<=w.heap.size)(hp:fQ w B v ts)(l:List Pt)(er:Int)(hr:pX (rd ts)=(l,er)) :
  Calls prog 42 #[v] w fun e w'=>∃ v' us,e=.returned (.tuple #[v',.int .i64 er])/\rd us=l/\oX w' w.heap.size v' us/\Below w.heap.size w w' :=
 (asJ B v ts w hB hp l er hr).mono fun _ _ ⟨v',us,h1,h2,h3,h4,_⟩=>⟨v',us,h1,h2,h3,h4⟩
theorem jR (w:World)(B nb:Nat)(v:Value)(xs:List Int)(k:Int)(hB:B<=w.heap.size)(h:jQ w B nb v xs) :
  fQ (w.alloc (.cells #[v,.int .i64 k] 82)) (w.heap.size+1) (.slice (some ⟨w.heap.size,0,none⟩) 1 1) [(v,xs,k)]:=by
 refine⟨_,1,rfl,by simp,by simp,fun t ht=>?_,fun _=>⟨w.heap.size,0,rfl,by omega,fun i t hi=>?_⟩⟩
 ·simp at ht;subst ht
  exact(h.at hB (ba _ _)).mono (by omega) (.inr (by omega))
 ·match i,hi with
  | 0,hi =>
   simp at hi;subst hi;exact⟨by simp[go_sem],by simp[go_sem]⟩
end
section
open Go.RowKit
abbrev rv (n m:Int):Value:=.agg #[.int .i64 n,.int .i64 m]
theorem nW (u d n m e:Int)(hu:u<=9223372036854775807)(hd:d<=9223372036854775807)(h:Rt.kY u d=(n,m,e))(w:World) :
  Calls prog 37 #[.int .i64 u,.int .i64 d] w fun x w'=>x=.returned (.tuple #[rv n m,.int .i64 e])/\Below w.heap.size w w':=by
 have H:=qQ h;clear h;by_cases c1:u<0
 ·have hr:(0,0,3)=(n,m,e):=by rw[<-H.out];unfold Rt.kY;rw[zQ (.inl c1)]
  simp only[dQ] at hr;obtain⟨rfl,rfl,rfl⟩:=hr;go_enter func37,ntmps37;go_wp2;exact uQ (v:=.tuple #[rv 0 0,.int .i64 3]) (by simp[results,results37,go_sem]) rfl ⟨rfl,ba _ _⟩
 by_cases c2:d<1
 ·have hr:(0,0,3)=(n,m,e):=by rw[<-H.out];unfold Rt.kY;rw[zQ (.inr c2)]
  simp only[dQ] at hr;obtain⟨rfl,rfl,rfl⟩:=hr;go_enter func37,ntmps37;go_wp2;exact uQ (v:=.tuple #[rv 0 0,.int .i64 3]) (by simp[results,results37,go_sem]) rfl ⟨rfl,ba _ _⟩
 have hm:=Rt.cT u d n m e (by omega) (by omega) H.out;clear H;obtain⟨x,rfl⟩:=cA (show 0<=u by omega);obtain⟨y,rfl⟩:=cA (show 0<=d by omega);rw[show Int.gcd (x:Int) (y:Int)=Nat.gcd x y from rfl] at hm;have hg1:1<=Nat.gcd x y:=Nat.gcd_pos_of_pos_right _ (by omega);have hg2:Nat.gcd x y<=y:=Nat.gcd_le_right _ (by omega);have q1:0<=(x:Int) / (Nat.gcd x y:Nat):=yP (by omega) (by omega);have q2:0<=(y:Int) / (Nat.gcd x y:Nat):=yP (by omega) (by omega);have q3:(x:Int) / (Nat.gcd x y:Nat)<=9223372036854775807:=aN (bN _ (by omega)) hu;have q4:(y:Int) / (Nat.gcd x y:Nat)<=9223372036854775807:=aN (bN _ (by omega)) hd;rcases hm with⟨hc,rfl,rfl,rfl⟩|⟨hc1,hc2,rfl,rfl,rfl⟩
 ·have hc':1073741824<(x:Int) / (Nat.gcd x y:Nat)\/((x:Int) / (Nat.gcd x y:Nat)<=1073741824/\1073741824<(y:Int) / (Nat.gcd x y:Nat)):=by omega
  clear hc;rcases hc' with hc1|⟨hc1,hc2⟩
  all_goals
   go_enter func37,ntmps37;go_wp2_with (go_at_call 74;refine(yL _ _ (by omega) (by omega) _).mono ?_;rintro e w' ⟨rfl,hbl⟩);obtain⟨hcell,hfroz⟩:=bcell hbl;generalize Nat.gcd x y=g at *
   have hz:w.heap.size<w'.heap.size:=by have:=hbl.size;simp at this;omega
   go_region
   go_wp2;exact uQ (v:=.tuple #[rv 0 0,.int .i64 4]) (by simp[results,results37,go_sem,hcell,hz]) rfl ⟨rfl,(bal (bs (bs (bt (ba _ _) hbl) (vQ _) _) (vQ _) _) _).drew⟩
 ·go_enter func37,ntmps37
  go_wp2_with (go_at_call 74;refine(yL _ _ (by omega) (by omega) _).mono ?_;rintro e w' ⟨rfl,hbl⟩);obtain⟨hcell,hfroz⟩:=bcell hbl;have hz:w.heap.size<w'.heap.size:=by have:=hbl.size;simp at this;omega
  go_region
  go_wp2;exact uQ (v:=.tuple #[rv (x / (Nat.gcd x y:Nat)) (y / (Nat.gcd x y:Nat)),.int .i64 0]) (by simp[results,results37,go_sem,hcell,hz]) rfl ⟨rfl,(bal (bs (bs (bt (ba _ _) hbl) (vQ _) _) (vQ _) _) _).drew⟩
end
section
open Go.RowKit Ds
def bH (l:List Pt) (y:List Int) (i j:Nat):Prop:=(∀ q p,q<i->l[q]? = some p->tJ p.1 y)/\(∀ q p,j<=q->l[q]? = some p->¬ tJ p.1 y)
theorem oW {l:List Pt}(h:cZ l){p q:Pt}(hij:i<j)(hi:l[i]? = some p)(hj:l[j]? = some q):tJ p.1 q.1:=by
 obtain⟨h1,rfl⟩:=cQ.1 hi;obtain⟨h2,rfl⟩:=cQ.1 hj;exact List.pairwise_iff_getElem.1 h i j h1 h2 hij
theorem bH.up {l:List Pt}{h:Nat}{p:Pt}(c:bH l y i j)(hr:cZ l)(hp:l[h]? = some p)(hlt:tJ p.1 y):bH l y (h+1) j:=by
 refine⟨fun q r hq hr2=>?_,c.2⟩;by_cases hqh:q=h
 ·subst hqh;rw[hp] at hr2;simp at hr2;subst hr2;exact hlt
 ·exact uF (oW hr (by omega) hr2 hp) hlt
theorem bH.none {l:List Pt}(c:bH l y i i)(hr:cZ l)(h:∀ p,l[i]? = some p->p.1≠y):∀ p∈l,p.1≠y:=by
 intro p hp he;obtain⟨q,hq,rfl⟩:=List.mem_iff_getElem.1 hp;have hq2:l[q]? = some l[q]:=iJ hq;rcases Nat.lt_trichotomy q i with h1|h1|h1
 ·have:=c.1 q _ h1 hq2;rw[he] at this;exact aoJ _ this
 ·subst h1;exact h _ hq2 he
 ·obtain⟨r,hr2⟩:=cX (l:=l) (i:=i) (by omega)
  have h2:=oW hr h1 hr2 hq2;rw[he] at h2;exact c.2 i r (vQ _) hr2 h2
structure Dis (l:List Pt):Prop where
 rise:cZ l
 pos:zZ l
 le:tot l<=1073741824
 ne:l≠[]
 ok:l.all wJ=true
 few:l.length<=4096
 one:dv l=1
theorem ciX {l:List Pt}(h:cZ l):cZ (cut g l):=by
 unfold cZ cut;rw[sC];exact h
theorem atQ (g:Nat):∀ l:List Pt,dv (l.map fun p=>(p.1,(g:Int)*p.2))=g*dv l
 | []=>by simp[dv]
 | p::l=>by
  simp only[fV,dv,atQ g l];rw[Int.natAbs_mul,Int.natAbs_natCast,Nat.gcd_mul_left]
theorem pW {l:List Pt}{g:Nat}(h:∀ p∈l,(g:Int) ∣ p.2):(cut g l).map (fun p=>(p.1,(g:Int)*p.2))=l:=by
 simp only[cut,List.map_map]
 conv=>rhs;rw[<-List.map_id l]
 refine yE fun p hp=>?_;simp only[Function.comp,id];rw[amZ (h p hp)]
theorem rW {l m:List Pt}(hp:zZ l)(hr:cZ l)(h:bU l=(m,0)):cZ m/\zZ m/\tot m<=1073741824/\m≠[]/\m.length<=4096/\dv m=1:=by
 unfold bU at h;split at h
 ·simp at h
 ·rename_i hne
  split at h
  ·simp at h
  ·rename_i hc
   simp only[dQ,sN] at h;subst h;have hd:=aT hp hne;have hdv:∀ p∈l,((dv l:Nat):Int) ∣ p.2:=fun p hp=>bT hp;refine⟨ciX hr,?_,by omega,?_,by rw[caQ];omega,?_⟩
   ·intro p hpm
    obtain⟨q,hq,rfl⟩:=wX.1 hpm;have h1:=hp q hq;exact qE h1 (by omega) (hdv q hq)
   ·simp[cut,hne]
   ·have e:=atQ (dv l) (cut (dv l) l)
    rw[pW hdv] at e;exact Nat.eq_of_mul_eq_mul_left hd (by rw[<-e,Nat.mul_one])
theorem dD {l m:List Pt}(h:pX l=(m,0)):m=l/\Dis l:=by
 unfold pX at h;split at h
 ·rename_i h0
  split at h
  ·rename_i h1
   simp only[dQ,sN] at h;have hm:yY l=(l,0):=zI h1 h0;unfold yY at hm;split at hm
   ·rename_i hok
    obtain⟨a,b,c,d,e,f⟩:=rW (sP (nT hok).1) (rP l) hm;exact⟨h.symm,a,b,c,d,hok,e,f⟩
   ·simp at hm
  ·simp at h
 ·rename_i h0
  simp only[dQ] at h;exact absurd h.2 h0
theorem atX {l:List Pt}(h:cZ l){p:Pt}(hp:l[i]? = some p):wt l p.1=p.2:=by
 induction l generalizing i with
 | nil=>simp at hp
 | cons q l ih =>
  cases i with
  | zero=>simp at hp;subst hp;exact bM h
  | succ i =>
   simp at hp;rw[cJ,ih (aD h) hp,xQ (aH ((iY.1 h).1 p (rQ hp)))];omega
theorem xO {l:List Pt}(h:zZ l)(hne:l≠[]):0<tot l:=by
 cases l with
 | nil=>exact absurd rfl hne
 | cons p l=>have:=h p (by simp);have:=caX (l:=l) fun q hq=>h q (by simp[hq]);rw[kZ];omega
end
namespace Ds
abbrev Nx:=List Int->Option (List Int × Int × List Int)
def cH (nx:Nx):Nat->List Int->List Pt
 | 0,_=>[]
 | t+1,l=>match nx l with
  | none=>[]
  | some (o,u,r)=>(o,u)::cH nx t r
theorem ciZ {nx:Nx}(h:nx l=none):cH nx t l=[]:=by
 cases t with
 | zero=>rfl
 | succ t=>simp[cH,h]
theorem ciJ {nx:Nx}{r:List Int}(h:nx l=some (o,u,r)):cH nx (t+1) l=(o,u)::cH nx t r:=by
 simp[cH,h]
def aY (l:List Int):Bool:=l.any fun b=>decide (b≠0/\b≠1)
def xA (bits:List Int) (times:Int):Int:=if 65536<bits.length then 5 else if times<0\/4096<times\/aY bits=true then 3 else 0
def rm (T pl w:Int):Int:=w*pl % T
def rZ (T pl:Int) (l:List Pt):List (List Int):=(l.filter fun p=>decide (T<=2*rm T pl p.2)).map (·.1)
def rA (T:Int) (l:List Pt):Int->Int->Int->List Int->Option (List Int × Int × List Int)
 | _,_,_,[]=>none
 | pl,node,u,b::r=>match (rZ T pl l)[(2*node+b).toNat]? with
  | some o=>some (o,u+1,r)
  | none=>rA T l (2*pl % T) (2*node+b - (rZ T pl l).length) (u+1) r
def jA (l:List Pt):Nx:=fun bits=>match l with
 | [p]=>some (p.1,0,bits)
 | l=>rA (tot l) l 1 0 0 bits
theorem atZ (a b n:Int):a*(b % n) % n=a*b % n:=by rw[Int.mul_emod,Int.emod_emod,<-Int.mul_emod]
theorem atJ (hT:0<T)(pl w:Int):0<=rm T pl w/\rm T pl w<T:=⟨Int.emod_nonneg _ (by omega),Int.emod_lt_of_pos _ hT⟩
theorem cjQ {r:Int}(hr:0<=r/\r<T):2*r % T=if T<=2*r then 2*r - T else 2*r:=by
 by_cases h:T<=2*r
 ·rw[zQ h,show 2*r=(2*r - T)+T*1 by omega,Int.add_mul_emod_self_left,Int.emod_eq_of_lt (by omega) (by omega)]
  omega
 ·rw[xQ h,Int.emod_eq_of_lt (by omega) (by omega)]
theorem cjX (T pl w:Int):rm T (2*pl % T) w=2*rm T pl w % T:=by
 unfold rm;rw[atZ,atZ,<-uM,<-uM,Int.mul_comm w 2]
def tr (T pl:Int):List Pt->Int
 | []=>0
 | p::l=>rm T pl p.2+tr T pl l
theorem sW (T pl:Int)(p:Pt)(l:List Pt):rZ T pl (p::l)=if T<=2*rm T pl p.2 then p.1::rZ T pl l else rZ T pl l:=by
 unfold rZ;rw[List.filter_cons];by_cases h:T<=2*rm T pl p.2
 ·rw[zQ h,zQ (xG h)];rfl
 ·rw[xQ h,xQ (by simp;omega)]
theorem auQ (T pl:Int)(l k:List Pt):rZ T pl (l++k)=rZ T pl l++rZ T pl k:=by simp[rZ]
theorem cjZ (hT:0<T)(pl:Int)(l:List Pt):tr T (2*pl % T) l=2*tr T pl l - T*(rZ T pl l).length:=by
 induction l with
 | nil=>simp[tr,rZ]
 | cons p l ih =>
  have h1:=atJ hT pl p.2;simp only[tr];rw[ih,cjX,cjQ h1,sW];split
  ·have e:T*((rZ T pl l).length+1:Int)=T*(rZ T pl l).length+T:=by rw[Int.mul_add,Int.mul_one]
   simp only[oJ];rw[sS,Int.natCast_one,e];omega
  ·omega
theorem cjJ (hT:0<T)(pl:Int)(l:List Pt):0<=tr T pl l/\tr T pl l<=T*l.length:=by
 induction l with
 | nil=>simp[tr]
 | cons p l ih =>
  have h1:=atJ hT pl p.2;simp only[tr,oJ];rw[sS,Int.mul_add,Int.natCast_one,Int.mul_one];omega
theorem ckQ (l:List Pt)(h:∀ p∈l,0<=p.2/\p.2<T):tr T 1 l=tot l:=by
 induction l with
 | nil=>rfl
 | cons p l ih =>
  have:=h p (by simp);rw[tr,kZ,ih fun q hq=>h q (by simp[hq]),rm,Int.mul_one,Int.emod_eq_of_lt this.1 this.2]
def Nd (T pl:Int) (l:List Pt) (node:Int):Prop:=∃ I:Int,tr T pl l=T*I/\0<=node/\node<I
theorem Nd.le {l:List Pt}(h:Nd T pl l node)(hT:0<T):0<=node/\node<l.length:=by
 obtain⟨I,h1,h2,h3⟩:=h;have h4:=(cjJ hT pl l).2;rw[h1] at h4;have:=Int.le_of_mul_le_mul_left h4 hT;omega
theorem Nd.next {l:List Pt}{b:Int}(h:Nd T pl l node)(hT:0<T)(hb:0<=b/\b<=1)(hm:((rZ T pl l).length:Int)<=2*node+b):Nd T (2*pl % T) l (2*node+b - (rZ T pl l).length):=by
 obtain⟨I,h1,h2,h3⟩:=h;refine⟨2*I - (rZ T pl l).length,?_,by omega,by omega⟩;rw[cjZ hT,h1,Int.mul_sub,<-uM,<-uM,Int.mul_comm T 2]
theorem Nd.start {l:List Pt}(h:∀ p∈l,0<=p.2/\p.2<tot l):Nd (tot l) 1 l 0:=⟨1,by rw[ckQ l h,Int.mul_one],by omega,by omega⟩
end Ds
section
open Go.RowKit Ds
theorem Dis.tpos {l:List Pt}(h:Dis l):1<=tot l:=by
 cases l with
 | nil=>exact absurd rfl h.ne
 | cons p l =>
  have h1:=h.pos p (by simp);have h2:0<=tot l:=(Nn.of_pos (l:=l) fun q hq=>h.pos q (by simp[hq])).tot_nn;rw[kZ];omega
theorem Dis.less {l:List Pt}(h:Dis l)(h2:2<=l.length):∀ p∈l,0<=p.2/\p.2<tot l:=by
 intro p hp;have h1:=h.pos p hp;refine⟨by omega,?_⟩;obtain⟨a,b,rfl⟩:=List.append_of_mem hp;have ha:0<=tot a:=(Nn.of_pos (l:=a) fun q hq=>h.pos q (by simp[hq])).tot_nn;have hb:0<=tot b:=(Nn.of_pos (l:=b) fun q hq=>h.pos q (by simp[hq])).tot_nn;rw[aK,kZ];cases a with
 | cons q a =>
  have:=h.pos q (by simp);have h3:0<=tot a:=(Nn.of_pos (l:=a) fun r hr=>h.pos r (by simp[hr])).tot_nn;rw[kZ];omega
 | nil=>cases b with
  | cons q b =>
   have:=h.pos q (by simp);have h3:0<=tot b:=(Nn.of_pos (l:=b) fun r hr=>h.pos r (by simp[hr])).tot_nn;rw[kZ];simp;omega
  | nil=>simp at h2
theorem vX (w:World)(r:Option Nat):w.grownBy w r:=aM w r
theorem bY {a c:World}(h:a.grownBy b r)(k:b.grownBy c r):a.grownBy c r :=
 ⟨k.os.trans h.os,k.tape.trans h.tape,k.output.trans h.output,bQ h.size k.size,fun i hi hr=>(k.block i (uX hi h.size) hr).trans (h.block i hi hr)⟩
theorem sA {a:World}(h:a.grownBy b r)(o:Obj):a.grownBy (b.alloc o) r:=bY h (uN b o r)
theorem eJ {a:World}(h:a.grownBy b r):a.grownBy b.drew r:=⟨h.os,h.tape,h.output,h.size,h.block⟩
theorem nQ {a:World}(h:a.grownBy b (some E))(hp:p.block=E)(u:Value):a.grownBy (b.setCell p u) (some E) :=
 bY h ⟨rfl,rfl,rfl,by simp[World.setCell],fun k _ hr=>tL _ _ _ _ (by rw[hp];intro e;exact hr (by rw[e]))⟩
theorem iM {a:World}(h:a.grownBy b (some E))(k:Nat)(u:Value):a.grownBy (b.setCell ⟨E,k,none⟩ u) (some E):=nQ h rfl u
theorem bL {a:World}(h:a.grownBy b r)(hp:a.heap.size<=p.block)(u:Value):a.grownBy (b.setCell p u) r :=
 ⟨h.os,h.tape,h.output,by simp[World.setCell];exact h.size,fun k hk hr=>(tL _ _ _ _ (by omega)).trans (h.block k hk hr)⟩
theorem dH {a:World}(h:Below a.heap.size a b):a.grownBy b (some E):=⟨h.os,h.tape,h.output,h.size,fun k hk _=>h.block k hk⟩
theorem aF {a:World}(h:a.grownBy b (some E))(hB:B<=E)(hE:B<=a.heap.size):Below B a b:=⟨h.os,h.tape,h.output,h.size,fun k hk=>h.block k (by omega) (by simp;omega)⟩
theorem nc (cs:Array Value)(t:TypeId)(k:Nat)(x:Value)(hN:N=w.heap.size)(hx:cs[k]? = some x):(w.alloc (.cells cs t)).cell? ⟨N,k,none⟩=some x:=by
 rw[iN _ _ _ _ hN];exact hx
theorem nf (cs:Array Value)(t:TypeId)(k:Nat)(hN:N=w.heap.size):(w.alloc (.cells cs t)).frozen? ⟨N,k,none⟩=false:=lE _ _ _ _ hN
structure Rv (w:World) (R:Nat) (s:Value) (k:Int):Prop where
 c0:w.cell? ⟨R,0,none⟩=some s
 c1:w.cell? ⟨R,1,none⟩=some (.int .i64 k)
 f0:w.frozen? ⟨R,0,none⟩=false
 f1:w.frozen? ⟨R,1,none⟩=false
 lt:R<w.heap.size
theorem Rv.below (h:Rv w R s k)(b:Below w.heap.size w w'):Rv w' R s k :=
 ⟨(b.cell (p:=⟨R,0,none⟩) h.lt).trans h.c0,(b.cell (p:=⟨R,1,none⟩) h.lt).trans h.c1,(b.frozen (p:=⟨R,0,none⟩) h.lt).trans h.f0,(b.frozen (p:=⟨R,1,none⟩) h.lt).trans h.f1,uX h.lt b.size⟩
theorem Rv.alloc (h:Rv w R s k)(o:Obj):Rv (w.alloc o) R s k:=h.below ((aQ _ w).alloc (vQ _) o)
theorem Rv.drew (h:Rv w R s k):Rv w.drew R s k:=⟨h.c0,h.c1,h.f0,h.f1,h.lt⟩
theorem Rv.new (w:World)(s:Value)(k:Int)(t:TypeId)(N:Nat)(hN:N=w.heap.size):Rv (w.alloc (.cells #[s,.int .i64 k] t)) N s k :=
 ⟨nc _ _ 0 _ hN rfl,nc _ _ 1 _ hN rfl,nf _ _ 0 hN,nf _ _ 1 hN,by simp;omega⟩
theorem jQ.setm (h:∀ m,m<N->jQ w B m v xs)(b k:Nat)(hp:b<N)(u:Value):∀ m,m<N->jQ (w.setCell ⟨b,k,none⟩ u) B m v xs:=by
 intro m hm;have h0:=h b hp;obtain⟨a,c,hv,hc,hl,hx⟩:=h m hm;refine⟨a,c,hv,hc,hl,fun hne=>?_⟩;obtain⟨b1,o1,ha,hb,hn,hcell⟩:=hx hne;refine⟨b1,o1,ha,hb,hn,fun i x hi=>?_⟩;rw[gQ]
 ·exact hcell i x hi
 ·obtain⟨a2,c2,hv2,_,_,hx2⟩:=h0
  obtain⟨b2,o2,ha2,_,hn2,_⟩:=hx2 hne;rw[hv,ha,ha2] at hv2;simp only[iZ,xX,jG] at hv2;intro e;simp only[jG] at e;omega
abbrev dK:Value:=.agg #[.slice none 0 0,.int .i64 0]
def ckX (E:Nat) {S:Type} (St:World->S->Prop) (go:S->Nx) (us:S->Int) (s0 s:S) (b:Int) (w:World) (e:Ending) (w':World):Prop :=
 w.grownBy w' (some E) /\
  ((e=.returned (.tuple #[dK,.bool false])/\∃ s',St w' s'/\us s' = us s+1/\∀ l,go s (b::l)=go s' l) \/
   (∃ a c o,e=.returned (.tuple #[.agg #[.slice a (o:List Int).length c,.int .i64 (us s+1)],.bool true])/\(∀ m,m<w.heap.size->jQ w' w'.heap.size m (.slice a o.length c) o)/\St w' s0/\∀ l,go s (b::l)=some (o,us s+1,l)))
def auX (sur:Option (List Int)) (w:World) (e:Ending) (w':World):Prop :=
 Below w.heap.size w w'/\(sur=none->e=.returned (.tuple #[dK,.bool false])) /\
  ∀ o,sur=some o->∃ a c,e=.returned (.tuple #[.agg #[.slice a o.length c,.int .i64 0],.bool true])/\∀ m,m<w.heap.size->jQ w' w'.heap.size m (.slice a o.length c) o
structure Drw (N E fF fS:Nat) {S:Type} (St:World->S->Prop) (go:S->Nx) (us:S->Int) (s0:S) (sur:Option (List Int)):Prop where
 keep:∀ {w w' s},St w s->Below N w w'->N<=w.heap.size->St w' s
 lt:E<N
 nil:∀ s,go s []=none
 u0:us s0=0
 feed:sur=none->∀ w s b,St w s->N<=w.heap.size->0<=b/\b<=1->0<=us s/\us s<=65536->Calls prog fF #[.pointer (some ⟨E,0,none⟩),.int .i64 b] w (ckX E St go us s0 s b w)
 sure:∀ w s,St w s->N<=w.heap.size->Calls prog fS #[.pointer (some ⟨E,0,none⟩)] w (auX sur w)
def eH {S:Type} (go:S->Nx) (s0:S) (sur:Option (List Int)):Nx:=fun l=>match sur with
 | some o=>some (o,0,l)
 | none=>go s0 l
theorem jQ.drop (h:jQ w B nb (.slice a xs.length c) xs)(i:Nat) :
  ∀ b o,a=some ⟨b,o,none⟩->jQ w B nb (.slice (some ⟨b,o+i,none⟩) (xs.length - i) (c - i)) (xs.drop i):=by
 intro b o ha;obtain⟨a',c',hv,hc,hl,hx⟩:=h;simp only[iZ] at hv;obtain⟨rfl,_,rfl⟩:=hv;refine⟨some ⟨b,o+i,none⟩,c - i,by simp,by simp;omega,by simp;omega,fun hne=>?_⟩;have hne':xs≠[]:=by rintro rfl;simp at hne
 obtain⟨b',o',ha',hb,hn,hcell⟩:=hx hne';rw[ha] at ha';simp only[xX,jG] at ha';obtain⟨rfl,rfl,_⟩:=ha';refine⟨b,o+i,rfl,hb,hn,fun j x hj=>?_⟩;rw[zK] at hj;have:=hcell (i+j) x hj;rwa [<-zV] at this
theorem jQ.drop2 {b o:Nat}(h:jQ w B nb (.slice (some ⟨b,o,none⟩) xs.length c) xs)(i:Nat)(hi:i<=xs.length) :
  jQ w B nb (.slice (if c=i then some ⟨b,o,none⟩ else some ⟨b,o+i,none⟩) (xs.drop i).length (c - i)) (xs.drop i):=by
 by_cases e:c=i
 ·have hc:xs.length<=c:=by
   obtain⟨a',c',hv,hc,_⟩:=h;simp only[iZ] at hv;omega
  rw[zQ e,fY (by omega)];exact⟨_,_,rfl,by simp,by simp,fun h=>absurd rfl h⟩
 ·rw[xQ e,uP]
  exact h.drop i b o rfl
theorem jQ.gb (h:jQ w B E v xs)(hg:w.grownBy w' (some E)):jQ w' B E v xs:=by
 obtain⟨a,c,hv,hc,hl,hx⟩:=h;refine⟨a,c,hv,hc,hl,fun hne=>?_⟩;obtain⟨b,o,ha,hb,hn,hcell⟩:=hx hne;exact⟨b,o,ha,hb,hn,fun i x hi=>hg.cell (hcell i x hi) (by simpa using hn)⟩
theorem auZ (h:aY l=false){b:Int}(hb:l[i]? = some b):0<=b/\b<=1:=by
 have:=(List.any_eq_false.1 h) b (rQ hb);simp at this;omega
theorem auJ (h:aY l=false)(i:Nat):aY (l.drop i)=false :=
 List.any_eq_false.2 fun b hb=>(List.any_eq_false.1 h) b (wC hb)
theorem Rv.gb (h:Rv w R s k)(hg:w.grownBy w' (some E))(hne:R≠E):Rv w' R s k :=
 have hn:some R≠some E:=by simpa using hne
 ⟨hg.cell (a:=⟨R,0,none⟩) h.c0 hn,hg.cell (a:=⟨R,1,none⟩) h.c1 hn,(sJ (w:=w) (a:=⟨R,0,none⟩) (hg.block R h.lt hn)).trans h.f0,(sJ (w:=w) (a:=⟨R,1,none⟩) (hg.block R h.lt hn)).trans h.f1,uX h.lt hg.size⟩
theorem Rv.put (h:Rv w R s k)(s':Value)(k':Int):Rv ((w.setCell ⟨R,0,none⟩ s').setCell ⟨R,1,none⟩ (.int .i64 k')) R s' k' :=
 ⟨by rw[gQ (by simp)];exact wZ h.c0,by refine wZ (u:=.int .i64 k) ?_;rw[gQ (by simp)];exact h.c1,by rw[qZ,qZ];exact h.f0,by rw[qZ,qZ];exact h.f1,by simpa using h.lt⟩
def ckZ (B E:Nat) {S:Type} (St:World->S->Prop) (nx:Nx) (s0:S) (bits:List Int) (w:World) (e:Ending) (w':World):Prop :=
 w.grownBy w' (some E) /\
  ((nx bits=none/\e=.returned (.tuple #[dK,.slice none 0 0,.bool false])) \/
   (∃ a c o k a' c' j,nx bits=some (o,k,bits.drop j)/\e=.returned (.tuple #[.agg #[.slice a (o:List Int).length c,.int .i64 k],.slice a' (bits.drop j).length c',.bool true]) /\
    (∀ m,m<w.heap.size->jQ w' w'.heap.size m (.slice a o.length c) o)/\jQ w' B E (.slice a' (bits.drop j).length c') (bits.drop j)/\St w' s0))
structure Rob (w:World) (E:Nat) (v:Value) (T nd u pl:Int):Prop where
 c0:w.cell? ⟨E,0,none⟩=some v
 c1:w.cell? ⟨E,1,none⟩=some (.int .i64 T)
 c2:w.cell? ⟨E,2,none⟩=some (.int .i64 nd)
 c3:w.cell? ⟨E,3,none⟩=some (.int .i64 u)
 c4:w.cell? ⟨E,4,none⟩=some (.int .i64 pl)
 fz:∀ j,w.frozen? ⟨E,j,none⟩=false
 lt:E<w.heap.size
theorem Rob.keep {nd:Int}(h:Rob w E v T nd u pl)(b:Below N w w')(hE:E<N):Rob w' E v T nd u pl :=
 ⟨(b.cell (p:=⟨E,0,none⟩) hE).trans h.c0,(b.cell (p:=⟨E,1,none⟩) hE).trans h.c1,(b.cell (p:=⟨E,2,none⟩) hE).trans h.c2,(b.cell (p:=⟨E,3,none⟩) hE).trans h.c3,(b.cell (p:=⟨E,4,none⟩) hE).trans h.c4,
  fun j=>(b.frozen (p:=⟨E,j,none⟩) hE).trans (h.fz j),uX h.lt b.size⟩
theorem Rob.at {nd:Int}(h:Rob w E v T nd u pl)(b:Below w.heap.size w w'):Rob w' E v T nd u pl:=h.keep b h.lt
theorem Rob.alloc {nd:Int}(h:Rob w E v T nd u pl)(o:Obj):Rob (w.alloc o) E v T nd u pl:=h.at (ba w o)
theorem Rob.drew {nd:Int}(h:Rob w E v T nd u pl):Rob w.drew E v T nd u pl:=⟨h.c0,h.c1,h.c2,h.c3,h.c4,h.fz,h.lt⟩
theorem Rob.s1 {nd:Int}(h:Rob w E v T nd u pl)(x:Int):Rob (w.setCell ⟨E,1,none⟩ (.int .i64 x)) E v x nd u pl :=
 ⟨by rw[gQ (by simp)];exact h.c0,wZ h.c1,by rw[gQ (by simp)];exact h.c2,by rw[gQ (by simp)];exact h.c3,by rw[gQ (by simp)];exact h.c4,fun j=>by rw[qZ];exact h.fz j,by simpa using h.lt⟩
theorem Rob.s2 {nd:Int}(h:Rob w E v T nd u pl)(x:Int):Rob (w.setCell ⟨E,2,none⟩ (.int .i64 x)) E v T x u pl :=
 ⟨by rw[gQ (by simp)];exact h.c0,by rw[gQ (by simp)];exact h.c1,wZ h.c2,by rw[gQ (by simp)];exact h.c3,by rw[gQ (by simp)];exact h.c4,fun j=>by rw[qZ];exact h.fz j,by simpa using h.lt⟩
theorem Rob.s3 {nd:Int}(h:Rob w E v T nd u pl)(x:Int):Rob (w.setCell ⟨E,3,none⟩ (.int .i64 x)) E v T nd x pl :=
 ⟨by rw[gQ (by simp)];exact h.c0,by rw[gQ (by simp)];exact h.c1,by rw[gQ (by simp)];exact h.c2,wZ h.c3,by rw[gQ (by simp)];exact h.c4,fun j=>by rw[qZ];exact h.fz j,by simpa using h.lt⟩
theorem Rob.s4 {nd:Int}(h:Rob w E v T nd u pl)(x:Int):Rob (w.setCell ⟨E,4,none⟩ (.int .i64 x)) E v T nd u x :=
 ⟨by rw[gQ (by simp)];exact h.c0,by rw[gQ (by simp)];exact h.c1,by rw[gQ (by simp)];exact h.c2,by rw[gQ (by simp)];exact h.c3,wZ h.c4,fun j=>by rw[qZ];exact h.fz j,by simpa using h.lt⟩
theorem Rob.other {nd:Int}(h:Rob w E v T nd u pl)(b k:Nat)(hb:b≠E)(x:Value):Rob (w.setCell ⟨b,k,none⟩ x) E v T nd u pl :=
 have hne:∀ j,(⟨b,k,none⟩:Addr)≠⟨E,j,none⟩:=fun j e=>hb (congrArg Addr.block e)
 ⟨by rw[gQ (hne 0)];exact h.c0,by rw[gQ (hne 1)];exact h.c1,by rw[gQ (hne 2)];exact h.c2,by rw[gQ (hne 3)];exact h.c3,by rw[gQ (hne 4)];exact h.c4,fun j=>by rw[qZ];exact h.fz j,by simpa using h.lt⟩
theorem Rob.nd {nd nd':Int}(h:Rob w E v T nd u pl)(e:nd=nd'):Rob w E v T nd' u pl:=e▸h
structure Rop (w:World) (N E:Nat) (a:Option Addr) (c:Nat) (ts:List Tr):Prop where
 cap:ts.length<=c
 few:ts.length<=4096
 row:ts≠[]->∃ b o,a=some ⟨b,o,none⟩/\b<N/\b≠E/\cD w b o ts
 ls:∀ t∈ts,jQ w N E t.1 t.2.1
theorem Rop.keep {ts:List Tr}(h:Rop w N E a c ts)(hb:Below N w w'):Rop w' N E a c ts :=
 ⟨h.cap,h.few,fun hne=>let ⟨b,o,h1,h2,h3,h4⟩:=h.row hne;⟨b,o,h1,h2,h3,h4.keep hb h2⟩,fun t ht=>(h.ls t ht).keep hb⟩
theorem Rop.gb {ts:List Tr}(h:Rop w N E a c ts)(hg:w.grownBy w' (some E)):Rop w' N E a c ts :=
 ⟨h.cap,h.few,fun hne=>let ⟨b,o,h1,h2,h3,h4⟩:=h.row hne;⟨b,o,h1,h2,h3,fun i t ht=>⟨hg.cell (h4 i t ht).1 (by simpa using h3),hg.cell (h4 i t ht).2 (by simpa using h3)⟩⟩,fun t ht=>(h.ls t ht).gb hg⟩
theorem Rop.get {ts:List Tr}(h:Rop w N E a c ts)(hi:i<ts.length) :
  ∃ b o sa sc xs k,a=some ⟨b,o,none⟩/\b<N/\b≠E/\ts[i]? = some (.slice sa xs.length sc,xs,k)/\w.cell? ⟨b,o+i*2,none⟩=some (.slice sa xs.length sc)/\w.cell? ⟨b,o+i*2+1,none⟩=some (.int .i64 k)/\jQ w N E (.slice sa xs.length sc) xs:=by
 obtain⟨b,o,ha,hb,hbe,hc⟩:=h.row (ne_of_lt hi);obtain⟨⟨s,xs,k⟩,hs⟩:=cX hi;have hI:=h.ls _ (rQ hs);obtain⟨sa,sc,he,r⟩:=hI;simp only at he;subst he;obtain⟨c1,c2⟩:=hc i _ hs;exact⟨b,o,sa,sc,xs,k,ha,hb,hbe,hs,c1,c2,sa,sc,rfl,r⟩
theorem ckJ {ts:List Tr}{t:Tr}(h:ts[i]? = some t):rd (ts.take (i+1))=rd (ts.take i)++[t.2]:=by
 rw[gZ,h];simp[rd]
theorem tW {ts:List Tr}(h:ts[i]? = some (s,xs,k)) :
  rZ T pl (rd (ts.take (i+1)))=rZ T pl (rd (ts.take i))++if T<=2*rm T pl k then [xs] else []:=by
 rw[ckJ h,auQ,sW];rfl
theorem clQ {ts:List Tr}(h:ts[i]? = some (s,xs,k))(hl:T<=2*rm T pl k) :
  (rZ T pl (rd ts))[(rZ T pl (rd (ts.take i))).length]? = some xs:=by
 have e:rd ts=rd (ts.take (i+1))++rd (ts.drop (i+1)):=by
  unfold rd;rw[<-vY,oS]
 rw[e,auQ,tW h,zQ hl,vM,qF (vQ _)];simp
theorem Rv.other (h:Rv w R s k)(b j:Nat)(hb:b≠R)(x:Value):Rv (w.setCell ⟨b,j,none⟩ x) R s k :=
 have hne:∀ i,(⟨b,j,none⟩:Addr)≠⟨R,i,none⟩:=fun i e=>hb (congrArg Addr.block e)
 ⟨by rw[gQ (hne 0)];exact h.c0,by rw[gQ (hne 1)];exact h.c1,by rw[qZ];exact h.f0,by rw[qZ];exact h.f1,by simpa using h.lt⟩
theorem avQ (w:World):Calls prog 186 #[] w fun e w'=>e=.returned (.agg #[.int .i64 0,.int .i64 0,.int .i64 1])/\Below w.heap.size w w':=by
 go_enter func186,ntmps186;go_wp2;exact uQ (v:=.agg #[.int .i64 0,.int .i64 0,.int .i64 1]) (by simp[results,results186,go_sem]) rfl ⟨rfl,ba _ _⟩
theorem avX (E:Nat)(v sv:Value)(T nd u pl k:Int)(w:World)(h:Rob w E v T nd u pl)(hsv:∃ a n c,sv=.slice a n c)(hT:1<=T/\T<=1073741824)(hp:0<=pl/\pl<T)(hk:0<=k/\k<=1073741824)(r:Bool)(hr:decide (T<=2*rm T pl k)=r) :
  Calls prog 232 #[.pointer (some ⟨E,0,none⟩),.agg #[sv,.int .i64 k]] w fun e w'=>e=.returned (.bool r)/\Below w.heap.size w w':=by
 obtain⟨sa,sn,sc,rfl⟩:=hsv;have H:Hid (Rob w E v T nd u pl):=h;have HR:Hid (decide (T<=2*(k*pl % T))=r):=hr;have hz:0<=k*pl/\k*pl<=1152921504606846976:=⟨eA hk.1 hp.1,aN (nN hk.2 (show pl<=1073741824 by omega) hp.1 (by omega)) (by omega)⟩;obtain⟨P,hP⟩:∃ P,k*pl=P:=⟨_,rfl⟩;have HP:Hid (k*pl=P):=hP;rw[hP] at hz;have hm:0<=P % T/\P % T<T:=⟨Int.emod_nonneg _ (by omega),Int.emod_lt_of_pos _ (by omega)⟩;rw[Hid,hP] at HR;have HR2:Hid (decide (T<=2*(P % T))=r):=HR;clear HR;have c1:=(H.out.alloc (.cells #[.slice sa sn sc,.int .i64 k] 82)).c1;have c4:=(H.out.alloc (.cells #[.slice sa sn sc,.int .i64 k] 82)).c4;have hT0:¬ T=0:=by omega
 clear h hr;go_enter func232,ntmps232;go_wp2
 go_region
 obtain⟨M,hM⟩:∃ M,P % T=M:=⟨_,rfl⟩;rw[Hid,hM] at HR2;rw[hM] at hm ⊢;have HR3:Hid (decide (T<=2*M)=r):=HR2;clear hM HR2 hP HP;go_wp2;go_ret;exact⟨uI HR3.out,(ba _ _).drew⟩
end
end Go.Proofs.YtpmioeamdhdokaaGreat
