import Derived.Test.YtdceajgpolckiaaGreatDoorQr13
import Derived.Test.YtdceajgpolckiaaGreatDoorQr18
import Derived.Lib.AppendZerosOnto
import Derived.Deep.Upon
open Go.Proofs.Tryz
set_option linter.unusedSimpArgs false
set_option maxHeartbeats 16000000
set_option maxRecDepth 100000
namespace Go.Proofs.YtdceajgpolckiaaGreatDoor
variable {B base c i n nb size:Nat} {W w w' wr:World} {nv s sv v:Value} {xs:List Value} {a:Option Addr} {o:List Int} {e:TypeId}
section
open Go.RowKit Ds
def lS (n:Nat) (ts:List Tr):Prop:=∀ t∈ts,t.2.1≠[]->∀ b o sp k c,t.1=.slice (some ⟨b,o,sp⟩) k c->b<n
theorem lS.of {ts us:List Tr}(h:lS n ts)(hu:∀ t∈us,∃ u∈ts,t.1=u.1/\t.2.1=u.2.1):lS n us:=by
 intro t ht hne b o sp k c e;obtain⟨u,hu1,e1,e2⟩:=hu t ht;exact h u hu1 (e2▸hne) b o sp k c (e1▸e)
theorem feX {xs:List Int}(h:jQ w B nb s xs):xs≠[]->∀ b o sp n c,s=.slice (some ⟨b,o,sp⟩) n c->b<B:=by
 intro hne b o sp n c e;obtain⟨a,c',hv,_,_,hx⟩:=h;obtain⟨b',o',ha,hb,_,_⟩:=hx hne;rw[hv,ha] at e;simp only[gZ,zX,bG] at e;omega
theorem oX.olds {lo:Nat}{ts:List Tr}(h:oX w lo v ts):lS w.heap.size ts:=by
 rcases h with⟨_,rfl⟩|⟨b,o,c,_,_,_,_,_,hi⟩
 ·intro t ht;cases ht
 ·exact fun t ht=>feX (hi t ht)
structure Bth (lo n:Nat) (sv nv:Value) (W:World) (ss ns:List Tr):Prop where
 so:oX W lo sv ss
 no:oX W n nv ns
 fr:sQ n ns
 sl:∀ g,sv.ownBlock=some g->g<n
 si:lS n ss
 le:lo<=n
theorem Bth.drew {lo:Nat}{ss ns:List Tr}(h:Bth lo n sv nv W ss ns):Bth lo n sv nv W.drew ss ns :=
 ⟨h.so.keep (aQ _ _).drew,h.no.keep (aQ _ _).drew,h.fr,h.sl,h.si,h.le⟩
theorem Bth.timesS {lo:Nat}{ss ns:List Tr}(h:Bth lo n sv nv W ss ns)(g:Int)(hk:∀ t∈ss,0<=t.2.2*g/\t.2.2*g<=4611686018427387904)(us:List Tr)(hu:iQ g ss=us) :
  Calls prog 113 #[sv,.int .i64 g] W fun e W'=>e=.returned sv/\Bth lo n sv nv W' us ns/\W.grownBy W' sv.ownBlock:=by
 refine(byZ lo sv ss g W h.so hk us hu).mono ?_;rintro e W' ⟨he,ho,hg⟩;refine⟨he,⟨ho,h.no.beside hg (fun b e e'=>?_) (fun t ht hne b o sp k c e e'=>?_),h.fr,h.sl,h.si.of (fun t ht=>iS (g:=g) (hu▸ht)),h.le⟩,hg⟩
 ·have h1:=(h.no.block b e).1
  have h2:=h.sl b e'.symm;omega
 ·have h1:=h.fr t ht hne b o sp k c e
  have h2:=h.sl b e'.symm;omega
theorem Bth.timesN {lo:Nat}{ss ns:List Tr}(h:Bth lo n sv nv W ss ns)(g:Int)(hk:∀ t∈ns,0<=t.2.2*g/\t.2.2*g<=4611686018427387904)(us:List Tr)(hu:iQ g ns=us) :
  Calls prog 113 #[nv,.int .i64 g] W fun e W'=>e=.returned nv/\Bth lo n sv nv W' ss us/\W.grownBy W' nv.ownBlock:=by
 refine(byZ n nv ns g W h.no hk us hu).mono ?_;rintro e W' ⟨he,ho,hg⟩;refine⟨he,⟨h.so.beside hg (fun b e e'=>?_) (fun t ht hne b o sp k c e e'=>?_),ho,h.fr.of (fun t ht=>iS (g:=g) (hu▸ht)),h.sl,h.si,h.le⟩,hg⟩
 ·have h1:=(h.no.block b e'.symm).1
  have h2:=h.sl b e;omega
 ·have h1:=h.si t ht hne b o sp k c e
  have h2:=(h.no.block b e'.symm).1;omega
theorem feZ (l:List (Tr × Tr)):rd (l.map bD)=(l.map bare).map jA:=by
 induction l with
 | nil=>rfl
 | cons p l ih =>
  simp only[rd,xV] at *
  rw[ih];congr 1
theorem feJ {az bz:List Tr}{p:Tr × Tr}(h:p∈mrg az bz):(p.1∈az\/p.1=no)/\(p.2∈bz\/p.2=no):=by
 induction az,bz using mrg.induct with
 | case1=>simp[mrg] at h
 | case2 b bs ih =>
  rw[mrg] at h;rcases fX.1 h with rfl|h
  ·exact⟨.inr rfl,.inl (by simp)⟩
  ·exact⟨(ih h).1,(ih h).2.imp (fun h=>by simp[h]) id⟩
 | case3 a az ih =>
  rw[mrg] at h;rcases fX.1 h with rfl|h
  ·exact⟨.inl (by simp),.inr rfl⟩
  ·exact⟨(ih h).1.imp (fun h=>by simp[h]) id,(ih h).2⟩
 | case4 a az b bs h1 ih =>
  rw[wT h1] at h;rcases fX.1 h with rfl|h
  ·exact⟨.inl (by simp),.inr rfl⟩
  ·exact⟨(ih h).1.imp (fun h=>by simp[h]) id,(ih h).2⟩
 | case5 a az b bs h1 h2 ih =>
  rw[qB h2] at h;rcases fX.1 h with rfl|h
  ·exact⟨.inr rfl,.inl (by simp)⟩
  ·exact⟨(ih h).1,(ih h).2.imp (fun h=>by simp[h]) id⟩
 | case6 a az b bs h1 h2 ih =>
  rw[xB (by omega)] at h;rcases fX.1 h with rfl|h
  ·exact⟨.inl (by simp),.inl (by simp)⟩
  ·exact⟨(ih h).1.imp (fun h=>by simp[h]) id,(ih h).2.imp (fun h=>by simp[h]) id⟩
theorem ffQ {lo:Nat}{az bz:List Tr}(ha:sQ lo az)(hb:sQ lo bz):sQ lo ((mrg az bz).map bD):=by
 intro t ht hne;obtain⟨p,hp,rfl⟩:=tX.1 ht;obtain⟨h1,h2⟩:=feJ hp;unfold bD at hne ⊢;by_cases hz:p.1.2.2=0
 ·simp only[hz,aU] at hne ⊢
  rcases h2 with h2|h2
  ·exact hb _ h2 hne
  ·rw[h2] at hne;exact absurd rfl hne
 ·simp only[hz,jK] at hne ⊢
  rcases h1 with h1|h1
  ·exact ha _ h1 hne
  ·rw[h1] at hne;exact absurd rfl hne
theorem ffX (u v:Value)(ts us:List Tr)(w:World)(B:Nat)(hp:dQ w B u ts)(hq:dQ w B v us)(hl:4096<ts.length) :
  Calls prog 112 #[u,v] w fun e w'=>e=.returned u/\w' = w:=by
 obtain⟨a,c,rfl,_⟩:=hp;obtain⟨a',c',rfl,_⟩:=hq;have hd':4096<(ts.length:Int):=by omega
 go_enter func112,ntmps112;go_wp2;go_ret;exact⟨rfl,rfl⟩
theorem ffZ (lo:Nat)(u v:Value)(ts us:List Tr)(w:World)(hlo:lo<=w.heap.size)(ho:oX w lo u ts)(hq:dQ w w.heap.size v us)(hl2:us.length<=4096)
  (hm1:∀ t∈ts,0<=t.2.2/\t.2.2<=(1152921504606846976:Int)) (hm2:∀ t∈us,0<=t.2.2/\t.2.2<=(1152921504606846976:Int)) (l:List Pt) (hl:qI (rd ts) (rd us)=l) :
  Calls prog 112 #[u,v] w fun e w'=>∃ v' xs,e=.returned v'/\rd xs=l/\oX w' lo v' xs/\Below w.heap.size w w'/\(sQ lo ts->sQ lo us->sQ lo xs):=by
 by_cases hc:4096<ts.length
 ·refine(ffX u v ts us w w.heap.size ho.parts hq hc).mono ?_
  rintro e w' ⟨rfl,rfl⟩;refine⟨u,ts,rfl,?_,ho,aQ _ _,fun h _=>h⟩;rw[<-hl,qI,zQ (by rw[tV];exact hc)]
 ·refine(feQ w.heap.size u v ts us w (vQ _) ho.parts hq (by omega) hl2 hm1 hm2 _ rfl).mono ?_
  rintro e w' ⟨v',rfl,hown,hI,hb⟩;refine⟨v',(mrg ts us).map bD,rfl,?_,?_,hb,ffQ⟩
  ·rw[<-hl,qI,xQ (by rw[tV];exact hc),feZ,csJ]
  ·have hlen:((mrg ts us).map bD).length<=1073741824:=by
    have:=fdQ ts us;simp only[uU];omega
   generalize (mrg ts us).map bD=xs at *
   by_cases hv:v' = .slice none 0 0
   ·subst hv
    have h0:xs=[]:=by
     obtain⟨_,⟨_,h0⟩|⟨g,cap,cur,hv,_⟩⟩:=hown
     ·exact jI.1 h0
     ·cases hv
    subst h0;exact .inl ⟨rfl,rfl⟩
   ·obtain⟨g,cap,rfl,hcap,hgb,hrow⟩:=mT rfl hown hv
    exact .inr ⟨g,0,cap,rfl,hcap,hlen,by omega,hrow,fun t ht=>(hI t ht).mono hb.size (.inr hgb)⟩
theorem ffJ {a b:List Pt}(h:b≠[]):qI a b≠[]:=by
 unfold qI;split
 ·rename_i h1;intro h0;rw[h0] at h1;simp at h1
 ·cases b with
  | nil=>exact absurd rfl h
  | cons q b =>
   cases a with
   | nil=>rw[yV];simp
   | cons p a =>
    rw[yV];split
    ·simp
    ·split <;> simp
end
section
open Go.RowKit Ds
theorem Ch.bound {thn:List Int->List Pt × Int}{l:List Pt}{A g A':Int}{s:List Pt}(h:Ch thn l i A s)(hl:Dis l)(hg:0<=g)(hA:A*g=A')(hm:A'<=1073741824):∀ p∈s,0<=p.2*g/\p.2*g<=1152921504606846976:=by
 intro p hp;have h1:=h.pos p hp;have h2:=jZ.le_tot (Nn.of_pos h.pos) hp;have h3:=h.tt;have h4:=tot_take_le (Nn.of_pos hl.pos) i;have h5:0<=tot (l.take i):=Nn.tot_nn fun p hp=>bF (hl.pos p (aH hp));have h6:p.2*g<=A*tot (l.take i)*g:=vK (by omega) hg;have e:A*tot (l.take i)*g=A' * tot (l.take i):=by rw[<-hA];ac_rfl
 have h7:A' * tot (l.take i)<=1073741824*tot (l.take i):=vK hm h5;have h8:=hl.le;exact⟨iA (by omega) hg,by omega⟩
theorem fgQ {n:List Pt}(hn:Dis n){k Q R T P:Int}(hT:tot n=T)(hk:0<k)(hk1:k<=1073741824)(hQ0:0<=Q)(hQ:T*Q<=P)(hP0:0<=P)(hP:P<=1073741824)(hR:k*Q=R):∀ p∈n,0<=p.2*R/\p.2*R<=1152921504606846976:=by
 intro p hp;have h1:=hn.pos p hp;have h2:=jZ.le_tot (Nn.of_pos hn.pos) hp;have hR0:0<=R:=by rw[<-hR];exact iA (by omega) hQ0
 have h3:p.2*R<=T*R:=vK (by omega) hR0;have e:T*R=k*(T*Q):=by rw[<-hR];ac_rfl
 have h4:k*(T*Q)<=k*P:=bE hQ (by omega);have h5:k*P<=1073741824*P:=vK hk1 hP0;exact⟨iA (by omega) hR0,by omega⟩
theorem b1Q {l:List Pt}(h:Dis l){p:Pt}(hp:p∈l):okO p.1=true:=by
 have:=dL.1 h.ok p hp;unfold tJ at this;rw[uK] at this;exact this.2
def Thn (fn:Nat) (cap:Value) (w:World) (thn:List Int->List Pt × Int):Prop :=
 ∀ (W:World) (u:Value) (xs:List Int),Below w.heap.size w W->jQ W W.heap.size W.heap.size u xs->okO xs=true ->
  Calls prog fn #[u,cap] W fun e W'=>∃ v' us,e=.returned (.tuple #[v',.int .i64 (thn xs).2])/\rd us=(thn xs).1/\oX W' W.heap.size v' us/\Below W.heap.size W W'/\sQ W.heap.size us
theorem b1Z (fn:Nat)(cap:Value)(thn:List Int->List Pt × Int)(B:Nat)(v:Value)(ts:List Tr)(w:World)(hB:B<=w.heap.size)(hp:dQ w B v ts)(hd:Dis (rd ts))(hen:∀ args W,(callFunc fn args).run prog W=.ok (.enter fn args) W)(ht:Thn fn cap w thn)(hn:∀ p∈rd ts,(thn p.1).2=0->Dis (thn p.1).1)(l:List Pt)(er:Int)(hr:tF thn (rd ts)=(l,er)) :
  Calls prog 65 #[v,.func (.func fn) #[] #[cap]] w fun e w'=>∃ v' us,e=.returned (.tuple #[v',.int .i64 er])/\rd us=l/\oX w' w.heap.size v' us/\Below w.heap.size w w'/\sQ w.heap.size us:=by
 have HP:=qQ hp;have HH:Hid (Dis (rd ts)/\Thn fn cap w thn/\(∀ p∈rd ts,(thn p.1).2=0->Dis (thn p.1).1)/\tF thn (rd ts)=(l,er)):=⟨hd,ht,hn,hr⟩;obtain⟨a,c,rfl,hc,hl,_⟩:=hp;clear hd ht hn hr;go_enter func65,ntmps65;go_wp2
 go_loopw [6,7,16] (fun sv av iv wr=>∃ (i A:Nat) (ss:List Tr),iv=.int .i64 (i:Int)/\av=.int .i64 (A:Int)/\i<=ts.length/\1<=A/\A<=1073741824/\Hid (Ch thn (rd ts) i (A:Int) (rd ss)/\oX wr w.heap.size sv ss/\(0<i->ss≠[])/\sQ w.heap.size ss)/\Below w.heap.size w wr) (fun _ _ iv _=>ts.length - (intOf iv).toNat)
 case atStart=>exact⟨0,1,[],rfl,rfl,kQ _,by omega,by omega,⟨Ch.nil thn (rd ts),.inl ⟨rfl,rfl⟩,by omega,sQ.nil _⟩,aQ _ _⟩
 case round =>
  obtain⟨i,A,ss,rfl,rfl,hit,hA1,hA2,HC,hbl⟩:=hrel;have hbs:=hbl.size;obtain⟨sva,svc,rfl⟩:=HC.out.2.1.slice;by_cases h1:i<ts.length
  ·obtain⟨b,o,sa,sc,xs,k,rfl,hb,hs,c1,c2,hIx⟩:=HP.out.get hB hbl h1
   have HS:=qQ (sV hs);have hk0:0<k:=HH.out.1.pos _ (qX HS.out)
   have hk1:k<=1073741824:=by
    have h1:=jZ.le_tot (Nn.of_pos HH.out.1.pos) (qX HS.out);have h3:=HH.out.1.le;simp only at h1;omega
   obtain⟨⟨n,e1⟩,HT⟩:∃ x,Hid (thn xs=x):=⟨_,rfl⟩;have kt:=HH.out.2.1 (wr.alloc (.cells #[.slice sa xs.length sc,.int .i64 k] 77)) (.slice sa xs.length sc) xs (bal hbl _) (((hIx.at (by omega) (ba _ _))).mono (by simp;omega) (.inr (by simp;omega))) (b1Q HH.out.1 (qX HS.out));rw[HT.out] at kt;clear hs hIx;go_wp2_with fail;refine kt.mono ?_;rintro e w2 ⟨v2,ns,rfl,hrd2,ho2,hb2,hf2⟩;obtain⟨na,nc,rfl⟩:=ho2.slice;have cw:(wr.alloc (.cells #[.slice sa xs.length sc,.int .i64 k] 77)).cell? ⟨wr.heap.size,1,none⟩=some (.int .i64 k):=by simp[go_sem]
   have cw2:w2.cell? ⟨wr.heap.size,1,none⟩=some (.int .i64 k):=(hb2.cell (p:=⟨wr.heap.size,1,none⟩) (by simp)).trans cw;have HB2:Hid (Below wr.heap.size wr w2/\oX w2 (wr.heap.size+1) (.slice na ns.length nc) ns/\sQ (wr.heap.size+1) ns/\rd ns=n):=⟨bt (ba _ _) hb2,by simpa using ho2,by simpa using hf2,hrd2⟩;have hs2:wr.heap.size<w2.heap.size:=by have:=hb2.size;simp at this;omega
   clear kt cw hb2 ho2 hf2 hrd2;by_cases h0:e1=0
   ·subst h0
    have hdn:Dis n:=by have:=HH.out.2.2.1 _ (qX HS.out);rw[HT.out] at this;exact this rfl
    have tn:=uO hdn.pos hdn.ne;obtain⟨T,hT⟩:=gA (bF tn);have hT0:0<T:=by omega
    have hT1:T<=1073741824:=by have:=hdn.le;omega
    have HDN:Hid (Dis n/\tot n=(T:Int)):=⟨hdn,hT⟩;have kt:=nM w2.heap.size (.slice na ns.length nc) ns w2 (vQ _) HB2.out.2.1.parts (by rw[HB2.out.2.2.2];exact Nn.of_pos hdn.pos) (by rw[HB2.out.2.2.2];have:=hdn.le;omega) (T:Int) (by rw[HB2.out.2.2.2];exact hT);have kd:=fun W=>gL A T (by omega) (by omega) W;obtain⟨G,hG⟩:∃ G,Nat.gcd A T=G:=⟨_,rfl⟩;obtain⟨g,hg⟩:∃ g,T / G=g:=⟨_,rfl⟩;have hG0:0<G:=by rw[<-hG];exact Nat.gcd_pos_of_pos_left _ (by omega)
    have hGz:((G:Int) == 0)=false:=by simp;omega
    have hq:(T:Int) / (G:Int)=(g:Int):=by rw[<-hg];exact(Int.natCast_ediv T G).symm
    have hg1:g<=T:=by rw[<-hg];exact Nat.div_le_self _ _
    obtain⟨P,hP⟩:∃ P,A*g=P:=⟨_,rfl⟩;have hP':(A:Int)*(g:Int)=(P:Int):=by rw[<-hP];exact(cE A g).symm
    have hP1:P<=1152921504606846976:=by rw[<-hP];exact Nat.mul_le_mul hA2 (bQ hg1 hT1)
    have HQ:Hid (tot n / (Int.gcd (A:Int) (tot n):Int)=(g:Int)):=by rw[Hid,hT];show(T:Int) / ((Nat.gcd A T:Nat):Int)=g;rw[hG];exact hq
    rw[hG] at kd;clear hdn hT tn hG hg hP;go_wp2_with fail;refine kt.mono ?_;rintro e w3 ⟨rfl,hb3⟩;clear kt;go_wp2_with fail;refine(kd _).mono ?_;rintro e w4 ⟨rfl,hb4⟩;clear kd;have hb24:Below w2.heap.size w2 w4:=bt hb3 hb4;have cw4:w4.cell? ⟨wr.heap.size,1,none⟩=some (.int .i64 k):=(hb24.cell (p:=⟨wr.heap.size,1,none⟩) hs2).trans cw2;have b4:Below w.heap.size w w4:=bt hbl (bt HB2.out.1 hb24);have hs4:wr.heap.size<w4.heap.size:=by have:=hb24.size;omega
    have H4:Hid (Bth w.heap.size (wr.heap.size+1) (.slice sva ss.length svc) (.slice na ns.length nc) w4 ss ns) :=
     ⟨HC.out.2.1.keep (bt HB2.out.1 hb24),HB2.out.2.1.keep hb24,HB2.out.2.2.1,fun g e=>Nat.lt_succ_of_lt (HC.out.2.1.block g e).2,fun t ht hne b o sp n c e=>Nat.lt_succ_of_lt (HC.out.2.1.olds t ht hne b o sp n c e),by omega⟩
    clear hb3 hb4 hb24 cw2;by_cases hm:1073741824<P
    ·have hch:=HC.out.1.much HS.out (by simp only[HT.out]) (by simp only[HT.out];rw[HQ.out,hP'];omega)
     rw[HH.out.2.2.2] at hch;simp only[fQ] at hch;obtain⟨rfl,rfl⟩:=hch;have hm':(1073741824:Int)<(P:Int):=by omega
     go_wp2;exact uQ (v:=.tuple #[.slice none 0 0,.int .i64 4]) (by simp[results,results65,go_sem]) rfl ⟨_,[],rfl,rfl,.inl ⟨rfl,rfl⟩,b4,sQ.nil _⟩
    ·have hm':¬ (1073741824:Int)<(P:Int):=by omega
     obtain⟨Q,hQ⟩:∃ Q,P / T=Q:=⟨_,rfl⟩;have hQ':(P:Int) / (T:Int)=(Q:Int):=by rw[<-hQ];exact(Int.natCast_ediv P T).symm
     have hQ1:Q<=P:=by rw[<-hQ];exact Nat.div_le_self _ _
     have hTQ:(T:Int)*(Q:Int)<=(P:Int):=by
      have:=Nat.mul_div_le P T;rw[hQ] at this;exact_mod_cast this
     obtain⟨R,hR⟩:∃ R,k*(Q:Int)=R:=⟨_,rfl⟩
     have hR1:0<=R/\R<=1152921504606846976:=by
      rw[<-hR];exact Rt.fJ (by omega) hk1 (by omega) (by omega)
     have HST:=HC.out.1.step (A':=(P:Int)) HH.out.1.pos HS.out HT.out HDN.out.1 HQ.out hP' (by omega);rw[HDN.out.2,hQ',hR] at HST;have hbs1:=HC.out.1.bound HH.out.1 (by omega) hP' (by omega);have hbn1:=fgQ HDN.out.1 HDN.out.2 hk0 hk1 (by omega) hTQ (by omega) (by omega) hR;obtain⟨us1,HU1⟩:∃ us,Hid (iQ (g:Int) ss=us):=⟨_,rfl⟩;obtain⟨us2,HU2⟩:∃ us,Hid (iQ R ns=us):=⟨_,rfl⟩;have HBS:Hid (∀ t∈ss,0<=t.2.2*(g:Int)/\t.2.2*(g:Int)<=1152921504606846976):=fun t ht=>hbs1 t.2 (aoX (f:=fun t:Tr=>t.2) ht);have HBN:Hid (∀ t∈ns,0<=t.2.2*R/\t.2.2*R<=1152921504606846976):=fun t ht=>hbn1 t.2 (by rw[<-HB2.out.2.2.2];exact aoX (f:=fun t:Tr=>t.2) ht)
     have HM1:Hid (∀ t∈us1,0<=t.2.2/\t.2.2<=(1152921504606846976:Int)):=by
      rw[Hid,<-HU1.out];intro t ht;obtain⟨u,hu,rfl⟩:=tX.1 ht;exact HBS.out u hu
     have HM2:Hid (∀ t∈us2,0<=t.2.2/\t.2.2<=(1152921504606846976:Int)):=by
      rw[Hid,<-HU2.out];intro t ht;obtain⟨u,hu,rfl⟩:=tX.1 ht;exact HBN.out u hu
     have HBS2:Hid (∀ t∈ss,0<=t.2.2*(g:Int)/\t.2.2*(g:Int)<=4611686018427387904):=fun t ht=>⟨(HBS.out t ht).1,by have:=(HBS.out t ht).2;omega⟩;have HBN2:Hid (∀ t∈ns,0<=t.2.2*R/\t.2.2*R<=4611686018427387904):=fun t ht=>⟨(HBN.out t ht).1,by have:=(HBN.out t ht).2;omega⟩;have HL2:Hid (us2.length<=4096):=by rw[Hid,<-HU2.out,pC,<-tV,HB2.out.2.2.2];exact HDN.out.1.few
     obtain⟨s',HSS⟩:∃ s',Hid (qI (rd us1) (rd us2)=s'):=⟨_,rfl⟩
     have HCH:Hid (Ch thn (rd ts) (i+1) (P:Int) s'/\s'≠[]):=by
      have h1:rd us1=iV (g:Int) (rd ss):=by rw[<-HU1.out,byX]
      have h2:rd us2=iV R n:=by rw[<-HU2.out,byX,HB2.out.2.2.2]
      refine⟨?_,?_⟩
      ·rw[<-HSS.out,h1,h2];exact HST
      ·rw[<-HSS.out,h2]
       refine ffJ ?_;have:=HDN.out.1.ne;intro h0;simp[iV] at h0;exact this h0
     have hP0:1<=P:=by have:=HST.sc.1;omega
     have hTz:((T:Int) == 0)=false:=by simp;omega
     have hTn:¬ (T:Int)=0:=by omega
     have hTn1:¬ T=0:=by omega
     have eQ:(P:Int).tdiv (T:Int)=(Q:Int):=by rw[Int.tdiv_eq_ediv_of_nonneg (by omega)];exact hQ'
     have wQ:IntKind.i64.wrap (Q:Int)=(Q:Int):=by rw[sU];omega
     have hdv:∀ u:World,(binOp .quo 3 (.int .i64 (P:Int)) (.int .i64 (T:Int))).run prog u=.ok (.int .i64 (Q:Int)) u:=fun u=>by simp[go_sem,Op.intDiv,hTn1,eQ,wQ]
     have wR:IntKind.i64.wrap R=R:=by rw[sU];omega
     have hml:∀ u:World,(binOp .mul 3 (.int .i64 k) (.int .i64 (Q:Int))).run prog u=.ok (.int .i64 R) u:=fun u=>by simp[go_sem,hR,wR]
     have HSL:=qQ HC.out.2.1.block;have HNL:Hid (∀ g,(Value.slice na ns.length nc).ownBlock=some g->wr.heap.size+1<=g):=fun g e=>(HB2.out.2.1.block g e).1;clear HST hbs1 hbn1 hQ hTQ;go_wp2_with fail
     go_region_held3 (fun w'=>w'.cell? ⟨wr.heap.size,1,none⟩=some (.int .i64 k))
      (first|assumption|(simp[go_sem, *];done))
      (first
       | (go_at_call 113;refine(h5.timesN R HBN2.out us2 HU2.out).mono ?_;rintro x6 w6 ⟨rfl,h6,g6⟩;have k6:w6.cell? ⟨wr.heap.size,1,none⟩=some (.int .i64 k):=g6.cell k5 (fun e=>absurd (HNL.out wr.heap.size e.symm) (Nat.not_succ_le_self _));have b6:Below w.heap.size w w6:=b5.grown g6 b5.size (fun g e=>(bQ hbs (bQ (Nat.le_succ _) (HNL.out g e)))))
       | (go_at_call 113;refine(H4.out.drew.timesS (g:Int) HBS2.out us1 HU1.out).mono ?_;rintro x5 w5 ⟨rfl,h5,g5⟩;have k5:w5.cell? ⟨wr.heap.size,1,none⟩=some (.int .i64 k):=g5.cell cw4 (fun e=>absurd (HSL.out wr.heap.size e.symm).2 (Nat.lt_irrefl _));have b5:Below w.heap.size w w5:=b4.drew.grown g5 b4.size (fun g e=>(HSL.out g e).1))
       | (go_at_call 112;refine(ffZ w.heap.size (.slice sva ss.length svc) (.slice na ns.length nc) us1 us2 _ b6.size h6.so h6.no.parts HL2.out HM1.out HM2.out s' HSS.out).mono ?_;rintro x7 w7 ⟨v7,xs7,rfl,hrd7,ho7,hb7,hf7⟩;obtain⟨a7,c7,hv7⟩:=ho7.slice;subst hv7;have l7:wr.heap.size<w6.heap.size:=(World.block_lt_of_cell? w6 ⟨wr.heap.size,1,none⟩ k6);have k7:w7.cell? ⟨wr.heap.size,1,none⟩=some (.int .i64 k):=(hb7.cell (p:=⟨wr.heap.size,1,none⟩) l7).trans k6))
     have HF:Hid (Ch thn (rd ts) (i+1) (P:Int) (rd xs7)/\oX w7 w.heap.size (.slice a7 xs7.length c7) xs7/\(0<i+1->xs7≠[])/\sQ w.heap.size xs7):=by
      refine⟨by rw[hrd7];exact HCH.out.1,ho7,fun _ h0=>HCH.out.2 ?_,hf7 (HC.out.2.2.2.of fun t ht=>iS (g:=(g:Int)) (HU1.out▸ht)) ((HB2.out.2.2.1.mono (by omega)).of fun t ht=>iS (g:=R) (HU2.out▸ht))⟩;rw[<-hrd7,h0];rfl
     have b7:Below w.heap.size w w7:=bt b6 hb7;clear h5 g5 k5 h6 g6 k6 hrd7 ho7 hb7 k7 l7 H4 cw4 hf7;go_wp2
     go_roundw
     case rel=>exact⟨i+1,P,xs7,by go_num,rfl,h1,hP0,by omega,HF,b7⟩
     case measure=>simp[intOf];omega
   ·have hch:=HC.out.1.err HS.out (by simp only[HT.out];exact h0)
    rw[HH.out.2.2.2] at hch;simp only[HT.out,fQ] at hch;obtain⟨rfl,rfl⟩:=hch;have h0':(er == 0)=false:=by simpa using h0
    have b2:Below w.heap.size w w2:=bt hbl HB2.out.1;go_wp2;exact uQ (v:=.tuple #[.slice none 0 0,.int .i64 er]) (by simp[results,results65,go_sem]) rfl ⟨_,[],rfl,rfl,.inl ⟨rfl,rfl⟩,b2,sQ.nil _⟩
  ·have hne:ts≠[]:=by intro h0;have:=HH.out.1.ne;rw[h0] at this;exact this rfl
   have hpos:0<ts.length:=dE.2 hne;have hdone:=HC.out.1.done (Nn.of_pos HH.out.1.pos) (by rw[tV];omega);rw[HH.out.2.2.2] at hdone;have tn:=uO HH.out.1.pos HH.out.1.ne;obtain⟨T,hT⟩:=gA (bF tn);have hT1:T<=1073741824:=by have:=HH.out.1.le;omega
   have kt:=nM B (.slice a ts.length c) ts wr (by omega) (HP.out.at hB hbl) (Nn.of_pos HH.out.1.pos) (by have:=HH.out.1.le;omega) (T:Int) hT;obtain⟨Z,hZ⟩:∃ Z,A*T=Z:=⟨_,rfl⟩;have hZ':(A:Int)*(T:Int)=(Z:Int):=by rw[<-hZ];exact(cE A T).symm
   have hZ1:Z<=1152921504606846976:=by rw[<-hZ];exact Nat.mul_le_mul hA2 hT1
   rw[hT,hZ'] at hdone;have hss:ss≠[]:=HC.out.2.2.1 (by omega);have HFS:=qQ HC.out.2.2.2
   have hts:tot (rd ss)<=4611686018427387904:=by
    have h1:=HC.out.1.tt;rw[rJ (by rw[tV];omega),hT,hZ'] at h1;omega
   have HO:Hid (Own wr w.heap.size (.slice sva ss.length svc) ss/\jZ (rd ss)/\tot (rd ss)<=4611686018427387904):=by
    refine⟨?_,HC.out.1.pos,hts⟩;rcases HC.out.2.1 with⟨_,h0⟩|h
    ·exact absurd h0 hss
    ·exact h
   have HDN:=qQ hdone;clear hdone hts hss HC hZ hT tn hne;go_wp2_with fail;refine kt.mono ?_;rintro e w2 ⟨rfl,hb2⟩;clear kt;have b2:Below w.heap.size w w2:=bt hbl hb2;by_cases hm:(1073741824:Int)<(Z:Int)
   ·have hd:=HDN.out
    rw[zQ hm] at hd;simp only[fQ] at hd;obtain⟨rfl,rfl⟩:=hd;go_wp2;exact uQ (v:=.tuple #[.slice none 0 0,.int .i64 4]) (by simp[results,results65,go_sem]) rfl ⟨_,[],rfl,rfl,.inl ⟨rfl,rfl⟩,b2,sQ.nil _⟩
   ·have hd:=HDN.out
    rw[xQ hm] at hd;have kl:=atX w.heap.size (.slice sva ss.length svc) ss w2 (HO.out.1.keep hb2) HO.out.2.1 HO.out.2.2 l er hd.symm;clear hd;go_wp2_with fail;refine kl.mono ?_;rintro e w3 ⟨v3,us,rfl,hrd3,ho3,hb3,hsub⟩;obtain⟨a3,c3,rfl⟩:=ho3.slice;have HR3:Hid (rd us=l/\oX w3 w.heap.size (.slice a3 us.length c3) us/\sQ w.heap.size us):=⟨hrd3,ho3,HFS.out.of hsub⟩;have b3:Below w.heap.size w w3:=b2.trans hb3;clear kl hrd3 ho3 hb3 hsub;go_wp2;exact uQ (v:=.tuple #[.slice a3 us.length c3,.int .i64 er]) (by simp[results,results65,go_sem]) rfl ⟨_,us,rfl,HR3.out.1,HR3.out.2.1,b3,HR3.out.2.2⟩
end
section
open Go.RowKit Go.Shelf Ds
theorem fgX (d:Nat)(fn:Fn)(xs ys:Array Value)(w:World):(Op.equalIn (d+1) 160 (.func fn xs ys) .nilFunc).run prog w=.ok false w:=by
 simp only[Op.equalIn,vT,aE underlying160,bK];rfl
theorem fgZ (fn:Fn)(xs ys:Array Value)(w:World):(Op.equal 160 (.func fn xs ys) .nilFunc).run prog w=.ok false w:=fgX 9999 fn xs ys w
theorem fgJ (fn:Fn)(xs ys:Array Value)(w:World):(binOp .neq 160 (.func fn xs ys) .nilFunc).run prog w=.ok (.bool true) w:=by
 simp only[binOp,vT,fgZ,bK];rfl
abbrev Fl:=Vl × (Value × List Tr)
def cD (w:World) (B:Nat) (v:Value) (fs:List Fl):Prop :=
 ∃ a c,v=.slice a fs.length c/\fs.length<=c/\fs.length<=1073741824/\(∀ f∈fs,jQ w B B f.1.1 f.1.2/\dQ w B f.2.1 f.2.2) /\
  (fs≠[]->∃ b o,a=some ⟨b,o,none⟩/\b<B/\∀ i f,fs[i]? = some f->w.cell? ⟨b,o+i*2,none⟩=some f.1.1/\w.cell? ⟨b,o+i*2+1,none⟩=some f.2.1)
def fd (fs:List Fl):List (List Int × List Pt):=fs.map fun f=>(f.1.2,rd f.2.2)
theorem cD.keep {fs:List Fl}(h:cD w B v fs)(hb:Below B w w'):cD w' B v fs:=by
 obtain⟨a,c,hv,hc,hl,hi,hx⟩:=h;refine⟨a,c,hv,hc,hl,fun t ht=>⟨(hi t ht).1.keep hb,(hi t ht).2.keep hb⟩,fun hne=>?_⟩;obtain⟨b,o,ha,hB,hcell⟩:=hx hne;exact⟨b,o,ha,hB,fun i z hz=>⟨(hb.cell (p:=⟨b,o+i*2,none⟩) hB).trans (hcell i z hz).1,(hb.cell (p:=⟨b,o+i*2+1,none⟩) hB).trans (hcell i z hz).2⟩⟩
theorem cD.at {fs:List Fl}(h:cD w B v fs)(hB:B<=w.heap.size)(hb:Below w.heap.size w w'):cD w' B v fs:=h.keep (hb.mono hB)
theorem cD.get {fs:List Fl}(hp:cD w B (.slice a n c) fs)(hB:B<=w.heap.size)(hbl:Below w.heap.size w wr)(h:i<fs.length) :
  ∃ b o sa sc xs ta tc ts,a=some ⟨b,o,none⟩/\b<w.heap.size/\fs[i]? = some ((.slice sa xs.length sc,xs),(.slice ta ts.length tc,ts))/\wr.cell? ⟨b,o+i*2,none⟩=some (.slice sa xs.length sc)/\wr.cell? ⟨b,o+i*2+1,none⟩=some (.slice ta ts.length tc) /\
   jQ wr B B (.slice sa xs.length sc) xs/\dQ wr B (.slice ta ts.length tc) ts:=by
 obtain⟨a',c',hv,hc,hl,hi,hx⟩:=hp;simp only[gZ] at hv;obtain⟨rfl,rfl,rfl⟩:=hv;obtain⟨b,o,ha,hb,hcell⟩:=hx (ne_of_lt h);obtain⟨⟨⟨s,xs⟩,⟨t,ts⟩⟩,hs⟩:=cX h;obtain⟨hI,hJ⟩:=hi _ (qX hs);have hI2:=hI.at hB hbl;have hJ2:=hJ.at hB hbl;obtain⟨sa,sc,he,_⟩:=hI;obtain⟨ta,tc,he',_⟩:=hJ;simp only at he he';subst he he';have hlt:b<w.heap.size:=by omega
 exact⟨b,o,sa,sc,xs,ta,tc,ts,ha,hlt,hs,(hbl.cell (p:=⟨b,o+i*2,none⟩) hlt).trans (hcell i _ hs).1,(hbl.cell (p:=⟨b,o+i*2+1,none⟩) hlt).trans (hcell i _ hs).2,hI2,hJ2⟩
def eV:List (List Int × List Pt)->List Int->List Pt
 | [],o=>[(o,1)]
 | f::fs,o=>if f.1=o then f.2 else eV fs o
def qH (fs:List Fl) (i:Nat) (o:List Int):Prop:=eV (fd fs) o=eV (fd (fs.drop i)) o
theorem qH.step {fs:List Fl}{f:Fl}(h:qH fs i o)(hf:fs[i]? = some f)(hne:¬ f.1.2=o):qH fs (i+1) o:=by
 unfold qH at *
 rw[h,lJ (cQ.1 hf).1,(cQ.1 hf).2];simp only[fd,xV,eV];rw[xQ hne]
theorem qH.hit {fs:List Fl}{f:Fl}(h:qH fs i o)(hf:fs[i]? = some f)(he:f.1.2=o):eV (fd fs) o=rd f.2.2:=by
 unfold qH at *
 rw[h,lJ (cQ.1 hf).1,(cQ.1 hf).2];simp only[fd,xV,eV];rw[zQ he]
theorem qH.end {fs:List Fl}(h:qH fs i o)(hi:fs.length<=i):eV (fd fs) o=[(o,1)]:=by
 unfold qH at *
 rw[h,fY hi];rfl
theorem fhQ (B C:Nat)(v u:Value)(fs:List Fl)(xs:List Int)(w:World)(hB:B<=w.heap.size)(hC:C<=w.heap.size)(hp:cD w B v fs)(hu:jQ w C C u xs)(l:List Pt)(hr:eV (fd fs) xs=l) :
  Calls prog 70 #[v,u] w fun e w'=>∃ r us,e=.returned r/\rd us=l/\dQ w' w'.heap.size r us/\Below w.heap.size w w':=by
 have HP:=qQ hp;have HU:=qQ hu;have HR:=qQ hr;obtain⟨a,c,rfl,hc,hl,_⟩:=hp;obtain⟨ua,uc,rfl,_⟩:=hu;clear hr;go_enter func70,ntmps70;go_wp2
 go_loopw [9] (fun s wr=>∃ i:Nat,s=.int .i64 (i:Int)/\i<=fs.length/\Hid (qH fs i xs)/\Below w.heap.size w wr) (fun s _=>fs.length - (intOf s).toNat)
 case atStart=>exact⟨0,rfl,kQ _,by simp[Hid,qH],aQ _ _⟩
 case round =>
  obtain⟨i,rfl,hit,HN,hbl⟩:=hrel;have hbs:=hbl.size;by_cases h1:i<fs.length
  ·obtain⟨b,o,sa,sc,gs,ta,tc,ts,rfl,hb,hs,d1,d2,hI,hJ⟩:=HP.out.get hB hbl h1
   have HS:=qQ hs;have HI:=qQ hI;have HJ:=qQ hJ;have hb1:Below wr.heap.size wr (wr.alloc (.cells #[.slice sa gs.length sc,.slice ta ts.length tc] 110)):=ba _ _;obtain⟨r,hr⟩:∃ r,decide (gs=xs)=r:=⟨_,rfl⟩;have HE:=qQ hr;have kc:=faQ wr.heap.size B C (.slice sa gs.length sc) (.slice ua xs.length uc) gs xs (wr.alloc (.cells #[.slice sa gs.length sc,.slice ta ts.length tc] 110)) ((HI.out.at (by omega) hb1).mono (by omega) (.inl rfl)) ((HU.out.at hC (bt hbl hb1)).mono (by omega) (.inl rfl)) r hr;clear hs hI hJ hr;go_wp2_with fail;refine kc.mono ?_;rintro e w2 ⟨rfl,q,rfl⟩;clear kc;cases r with
   | true =>
    have hy:rd ts=l:=by rw[<-HR.out];exact(HN.out.hit HS.out (yH HE.out)).symm
    have HY:=qQ hy;clear hy;go_wp2;go_ret;exact⟨_,ts,rfl,HY.out,(HJ.out.at (by omega) (below_drewN hb1 _)).mono (by simp;omega),below_drewN (bt hbl hb1) _⟩
   | false =>
    have HN2:=qQ (HN.out.step HS.out (eM HE.out));go_wp2
    go_roundw
    case rel=>exact⟨i+1,by go_num,h1,HN2,below_drewN (bt hbl hb1) _⟩
    case measure=>simp[intOf];omega
  ·have hy:[(xs,1)]=l:=by rw[<-HR.out];exact(HN.out.end (by omega)).symm
   have HY:=qQ hy;have HO:Hid (dQ (wr.alloc (.cells #[.slice ua xs.length uc,.int .i64 1] 77)) (wr.heap.size+1) (.slice (some ⟨wr.heap.size,0,none⟩) 1 1) [(.slice ua xs.length uc,xs,1)]):=dR wr C C _ xs 1 (by omega) (HU.out.at hC hbl);clear hy;go_wp2;go_ret;exact⟨_,[(.slice ua xs.length uc,xs,1)],rfl,HY.out,by simpa using HO.out,bal hbl _⟩
theorem fhX (B C bx:Nat)(v u:Value)(fs:List Fl)(xs:List Int)(w:World)(hB:B<=w.heap.size)(hC:C<=w.heap.size)(hc:w.cell? ⟨bx,0,none⟩=some v)(hp:cD w B v fs)(hu:jQ w C C u xs)(l:List Pt)(hr:eV (fd fs) xs=l) :
  Calls prog 69 #[u,.pointer (some ⟨bx,0,none⟩)] w fun e w'=>∃ r us,e=.returned (.tuple #[r,.int .i64 0])/\rd us=l/\dQ w' w'.heap.size r us/\Below w.heap.size w w':=by
 have kc:=fhQ B C v u fs xs w hB hC hp hu l hr;obtain⟨a,c,rfl,_⟩:=hp;obtain⟨ua,uc,rfl,_⟩:=hu;clear hr;go_enter func69,ntmps69;go_wp2_with fail;refine kc.mono ?_;rintro e w1 ⟨r,us,rfl,h1,h2,h3⟩;have H2:Hid (dQ w1 w1.heap.size r us/\rd us=l):=⟨h2,h1⟩;obtain⟨ra,rc,rfl,_⟩:=h2;clear h1 kc;go_wp2;exact uQ (v:=.tuple #[.slice ra us.length rc,.int .i64 0]) (by simp[results,results69,go_sem]) rfl ⟨_,us,rfl,H2.out.2,H2.out.1,h3⟩
theorem fhZ (B C bx by':Nat)(v u:Value)(fs:List Fl)(xs:List Int)(w:World)(hB:B<=w.heap.size)(hC:C<=w.heap.size)(hc:w.cell? ⟨bx,0,none⟩=some v)(hf:w.cell? ⟨by',0,none⟩=some (.func (.func 69) #[] #[.pointer (some ⟨bx,0,none⟩)]))(hp:cD w B v fs)(hu:jQ w C C u xs)(l:List Pt)(er:Int)(hr:pX (eV (fd fs) xs)=(l,er)) :
  Calls prog 118 #[u,.pointer (some ⟨by',0,none⟩)] w fun e w'=>∃ v' us,e=.returned (.tuple #[v',.int .i64 er])/\rd us=l/\oX w' w.heap.size v' us/\Below w.heap.size w w'/\sQ w.heap.size us:=by
 have kc:=fhX B C bx v u fs xs w hB hC hc hp hu _ rfl;have HR:=qQ hr;obtain⟨ua,uc,rfl,_⟩:=hu;clear hr;go_enter func118,ntmps118;go_wp2_with fail;refine kc.mono ?_;rintro e w1 ⟨r,us,rfl,h1,h2,h3⟩;have ko:=atJ w1.heap.size r us w1 (vQ _) h2 l er (by rw[h1];exact HR.out);obtain⟨ra,rc,rfl,_⟩:=h2;have hs:=h3.size;clear h1 kc;go_wp2_with fail;refine ko.mono ?_;rintro e w2 ⟨v2,xs2,rfl,k1,k2,k3,k4⟩;obtain⟨a2,c2,rfl⟩:=k2.slice;have H2:Hid (rd xs2=l/\oX w2 w.heap.size (.slice a2 xs2.length c2) xs2/\sQ w.heap.size xs2):=⟨k1,k2.mono hs,k4.mono hs⟩;clear k1 k2 k4 ko;go_wp2;exact uQ (v:=.tuple #[.slice a2 xs2.length c2,.int .i64 er]) (by simp[results,results118,go_sem]) rfl ⟨_,xs2,rfl,H2.out.1,H2.out.2.1,bt h3 k3,H2.out.2.2⟩
theorem b1J {l:List Pt}(h:(pX l).2=0):Dis (pX l).1:=by
 have:=mD (vI rfl h:pX l=((pX l).1,0));rw[this.1];exact this.2
def nG (l:List Pt) (F:List Int->List Pt):List Pt × Int:=if (pX l).2=0 then tF (fun x=>pX (F x)) l else ([],(pX l).2)
theorem fhJ (B bx:Nat)(v u:Value)(ts:List Tr)(fs:List Fl)(w:World)(hB:B<=w.heap.size)(hbx:bx<w.heap.size)(hc:w.cell? ⟨bx,0,none⟩=some u)(hp:dQ w B v ts)(hq:cD w B u fs)(l:List Pt)(er:Int)(hr:nG (rd ts) (eV (fd fs))=(l,er)) :
  Calls prog 68 #[v,.func (.func 69) #[] #[.pointer (some ⟨bx,0,none⟩)]] w fun e w'=>∃ v' us,e=.returned (.tuple #[v',.int .i64 er])/\rd us=l/\oX w' w.heap.size v' us/\Below w.heap.size w w'/\sQ w.heap.size us:=by
 obtain⟨⟨l1,e1⟩,ho⟩:∃ x,pX (rd ts)=x:=⟨_,rfl⟩;obtain⟨W,hW⟩:∃ W,w.alloc (.cells #[.func (.func 69) #[] #[.pointer (some ⟨bx,0,none⟩)]] 160)=W:=⟨_,rfl⟩;have HW:Hid (Below w.heap.size w W):=hW▸ba w _;have hWs:W.heap.size=w.heap.size+1:=by rw[<-hW];simp
 have cW:W.cell? ⟨w.heap.size,0,none⟩=some (.func (.func 69) #[] #[.pointer (some ⟨bx,0,none⟩)]):=by rw[<-hW];simp[go_sem]
 have cB:W.cell? ⟨bx,0,none⟩=some u:=(HW.out.cell (p:=⟨bx,0,none⟩) hbx).trans hc;have kc:=e9J B v ts W (by omega) (hp.at hB HW.out) l1 e1 ho;have HQ:=qQ (hq.at hB HW.out);have HR:Hid (nG (rd ts) (eV (fd fs))=(l,er)/\pX (rd ts)=(l1,e1)):=⟨hr,ho⟩;obtain⟨a,c,rfl,_⟩:=hp;obtain⟨ua,uc,rfl,_⟩:=hq;have hfn:=fun w=>fgJ (.func 69) #[] #[.pointer (some ⟨bx,0,none⟩)] w;clear hr ho;go_enter func68,ntmps68;go_wp2_with fail;clear hW;refine kc.mono ?_;rintro e w1 ⟨v1,us,rfl,h1,h2,h3⟩;obtain⟨b1,d1,rfl⟩:=h2.slice;have hs1:=h3.size;have b1w:Below w.heap.size w w1:=bt HW.out h3;by_cases h0:e1=0
 ·subst h0
  obtain⟨hle,hdis⟩:=mD HR.out.2;have hch:=HR.out.1;unfold nG at hch;rw[HR.out.2] at hch;simp only[aU] at hch;have hru:rd us=rd ts:=h1.trans hle
  have kch:=b1Z 118 (.pointer (some ⟨w.heap.size,0,none⟩)) (fun x=>pX (eV (fd fs) x)) w1.heap.size (.slice b1 us.length d1) us w1 (vQ _) h2.parts (by rw[hru];exact hdis) (enters_of func118 (by kernel_rfl) rfl)
   (fun W' u xs hbW hI _=>fhZ B W'.heap.size bx w.heap.size (.slice ua fs.length uc) u fs xs W' (by have:=hbW.size;omega) (vQ _) (((bt h3 hbW).cell (p:=⟨bx,0,none⟩) (by show bx<W.heap.size;omega)).trans cB) (((bt h3 hbW).cell (p:=⟨w.heap.size,0,none⟩) (by show w.heap.size<W.heap.size;omega)).trans cW) (HQ.out.at (by omega) (bt h3 hbW)) hI _ _ rfl)
   (fun p _ he=>b1J he) l er (by rw[hru];exact hch)
  clear hch hdis hle h1 h2 kc hru;go_wp2_with fail;refine kch.mono ?_;rintro e w2 ⟨v2,xs2,rfl,k1,k2,k3,k4⟩;obtain⟨a2,c2,rfl⟩:=k2.slice;have H2:Hid (rd xs2=l/\oX w2 w.heap.size (.slice a2 xs2.length c2) xs2/\sQ w.heap.size xs2):=⟨k1,k2.mono (by omega),k4.mono (by omega)⟩;clear k1 k2 kch k4;go_wp2;exact uQ (v:=.tuple #[.slice a2 xs2.length c2,.int .i64 er]) (by simp[results,results68,go_sem]) rfl ⟨_,xs2,rfl,H2.out.1,H2.out.2.1,bt b1w k3,H2.out.2.2⟩
 ·have h0':(e1 == 0)=false:=by simpa using h0
  have hm:=HR.out.1;unfold nG at hm;rw[HR.out.2] at hm;simp only[h0,jK,fQ] at hm;obtain⟨rfl,rfl⟩:=hm;clear h1 h2 kc;go_wp2;exact uQ (v:=.tuple #[.slice none 0 0,.int .i64 e1]) (by simp[results,results68,go_sem]) rfl ⟨_,[],rfl,rfl,.inl ⟨rfl,rfl⟩,b1w,sQ.nil _⟩
theorem fiQ (B:Nat)(v u:Value)(ts:List Tr)(fs:List Fl)(w:World)(hB:B<=w.heap.size)(hp:dQ w B v ts)(hq:cD w B u fs)(l:List Pt)(er:Int)(hr:nG (rd ts) (eV (fd fs))=(l,er)) :
  Calls prog 34 #[v,u] w fun e w'=>∃ v' us,e=.returned (.tuple #[v',.int .i64 er])/\rd us=l/\oX w' w.heap.size v' us/\Below w.heap.size w w'/\sQ w.heap.size us:=by
 have HP:=qQ hp;have HQ:=qQ hq;have HR:=qQ hr;obtain⟨a,c,rfl,_⟩:=hp;obtain⟨ua,uc,rfl,_⟩:=hq;have kc:=fhJ B w.heap.size (.slice a ts.length c) (.slice ua fs.length uc) ts fs (w.alloc (.cells #[.slice ua fs.length uc] 108)) (by simp;omega) (by simp) (by simp[go_sem]) (HP.out.at hB (ba _ _)) (HQ.out.at hB (ba _ _)) l er HR.out;clear hr;go_enter func34,ntmps34;go_wp2_with fail;refine kc.mono ?_;rintro e w1 ⟨v1,us,rfl,h1,h2,h3,h4⟩;obtain⟨b1,d1,rfl⟩:=h2.slice;have hb:Below w.heap.size w w1:=bt (ba _ _) h3;clear kc;go_wp2;exact uQ (v:=.tuple #[.slice b1 us.length d1,.int .i64 er]) (by simp[results,results34,go_sem]) rfl ⟨_,us,rfl,h1,h2.mono (by simp),hb,h4.mono (by simp)⟩
end
section
open Go.RowKit Ds
theorem fiX (n:Nat)(hn:n<=1073741824)(w:World) :
  Calls prog 173 #[.slice none 0 0,.int .i64 (n:Int)] w fun e w'=>∃ v',e=.returned v'/\w'.ownsRow w.heap.size 3 1 v' 0 []/\Below w.heap.size w w':=by
 obtain⟨i0,hi,hz0,hz1,hz2⟩:=zV yO;by_cases h0:n=0
 ·subst h0
  go_enter func173,ntmps173;go_wp2;go_ret;exact⟨_,rfl,⟨rfl,.inl ⟨rfl,rfl⟩⟩,aQ _ _⟩
 ·have hrz:=fun ty=>Lib.run_append_nil_zeros (P:=prog) w 37 3 ty 3 i0 (.int .i64 0) .i64 .i64 underlying37 underlying3 hi hz0 n (by omega) (by omega) (by omega) (by rw[hz2];omega)
  have hGn:n<=grownCap w n 0 3:=grownCap_ge w _ _ _;have hGm:grownCap w n 0 3<=maxLen:=grownCap_le_maxLen w n 0 3 (by unfold maxLen;omega);obtain⟨G,hG⟩:∃ G,grownCap w n 0 3=G:=⟨_,rfl⟩;rw[hG] at hrz hGn hGm;obtain⟨cur,hcur⟩:∃ cur,Builtin.zeroCells (Value.int .i64 0).cells n++Builtin.zeroCells (Value.int .i64 0).cells (G - n)=cur:=⟨_,rfl⟩;rw[hcur] at hrz;have hcs:cur.size=G*1:=by rw[<-hcur];simp[Builtin.zeroCells,Value.cells];omega
  have HO:Hid ((w.drew.alloc (.cells cur 3)).ownsRow w.heap.size 3 1 (.slice (some ⟨w.heap.size,0,none⟩) 0 G) 0 []) :=
   ⟨rfl,.inr ⟨w.heap.size,G,cur,rfl,vQ _,uM w.drew _,kQ _,hGm,hcs,by simp⟩⟩
  have h1:¬ ((n:Int)<0):=by omega
  have h4:(0:Int)<(n:Int):=by omega
  have hG63:G<=9223372036854775807:=by unfold maxLen at hGm;omega
  clear hG hcur;go_enter func173,ntmps173;go_wp2_with (at_builtin;refine Lib.wpList_append_run _ rfl _ _ _ _ rfl _ _ rfl rfl _ _ (hrz _) ?_);go_ret;exact⟨_,rfl,HO.out,bal (aQ _ _).drew _⟩
theorem fiZ (w:World)(ty:TypeId)(base a:Option Addr)(sLen sCap c:Nat)(hle:sLen<=sCap)(i0:TypeInfo)(hi:prog.info? 3=some i0)(hz1:i0.size=1):(Builtin.append_ #[37,37] ty #[.slice base sLen sCap,.slice a 0 c]).run prog w=.ok (.slice base sLen sCap) w:=by
 refine run_append_nothing (P:=prog) w 37 37 ty 3 i0 underlying37 hi base sLen sCap hle (.slice a 0 c) ?_;rw[hz1]
 have key:∀ W:World,(Builtin.firstCells 1 0 (.slice a 0 c)).run prog W=.ok ([]:List Value).toArray W:=by
  intro W;cases a with
  | none=>exact run_firstCells_none W 1 0 0 c
  | some ad=>exact run_firstCells_some W 1 0 ad 0 c [] rfl (by simp)
 exact⟨.inl ⟨3,underlying37⟩,fun w'=>by simp[Builtin.lenOf],key w,key w.drew,rfl,by simp⟩
theorem ajZ (h:w.ownsRow base e size (.slice a n c) n xs):n<=c:=by
 rcases h.2 with⟨h1,h2⟩|⟨g,cap,cur,h1,_,_,h2,_⟩
 ·simp only[gZ] at h1;omega
 ·simp only[gZ] at h1;omega
def cat (zs:List Vl):List Int:=zs.flatMap (·.2)
theorem sC {zs:List Vl}{z:Vl}(h:zs[i]? = some z):cat (zs.take (i+1))=cat (zs.take i)++z.2:=by
 unfold cat;rw[fZ,h];simp
theorem fiJ (C:Nat)(v:Value)(zs:List Vl)(w:World)(hC:C<=w.heap.size)(hp:vL w C v zs)(hz:zs.length<=1073741824)(hs:(cat zs).length<=1073741824) :
  Calls prog 115 #[v] w fun e w'=>∃ v',e=.returned v'/\(∀ m,m<w.heap.size->jQ w' w'.heap.size m v' (cat zs))/\Below w.heap.size w w':=by
 have HP:Hid (vL w C v zs):=hp;obtain⟨a,c,rfl,hcc,_,_⟩:=hp;obtain⟨i0,hi,hz0,hz1,hz2⟩:=zV yO
 have hlen:∀ i,(cat (zs.take i)).length<=1073741824:=by
  intro i;have e:cat zs=cat (zs.take i)++cat (zs.drop i):=by unfold cat;rw[<-List.flatMap_append,fP]
  rw[e,dJ] at hs;omega
 have HLN:Hid (∀ i,(cat (zs.take i)).length<=1073741824):=hlen;clear hlen;go_enter func115,ntmps115;go_wp2
 go_loopw [3,11] (fun s u wr=>∃ i n:Nat,u=.int .i64 (i:Int)/\s=.int .i64 (n:Int)/\i<=zs.length/\n<=1073741824/\Hid ((cat (zs.take i)).length=n)/\Below w.heap.size w wr) (fun _ u _=>zs.length - (intOf u).toNat)
 case atStart=>exact⟨0,0,rfl,rfl,kQ _,by omega,by simp[Hid,cat],aQ _ _⟩
 case round =>
  obtain⟨i,n,rfl,rfl,hit,hn,HN,hbl⟩:=hrel;by_cases h1:i<zs.length
  ·obtain⟨b,o,sa,sc,xs,rfl,hb,hsg,d1,hI⟩:=HP.out.get hC hbl h1
   have hn2:n+xs.length<=1073741824:=by
    have h5:=HLN.out (i+1);rw[sC hsg,dJ,HN.out] at h5;exact h5
   have HN2:Hid ((cat (zs.take (i+1))).length=n+xs.length):=by rw[Hid,sC hsg,dJ,HN.out]
   have hneg:¬ ((n:Int)+(xs.length:Int)<0):=by omega
   clear hsg hI;go_wp2
   go_roundw
   case rel=>exact⟨i+1,n+xs.length,by go_num,by go_num,h1,hn2,HN2,hbl⟩
   case measure=>simp[intOf];omega
  ·have kg:=fiX n hn wr
   go_wp2_with fail;refine kg.mono ?_;rintro e w1 ⟨v1,rfl,ho1,hb1⟩;obtain⟨va,vc,rfl⟩:=eF ho1;have b1:Below w.heap.size w w1:=bt hbl hb1;have HO1:Hid (w1.ownsRow w.heap.size 3 1 (.slice va 0 vc) 0 []):=⟨ho1.1,ho1.2.imp id fun⟨g,cap,cur,h1,h2,h3⟩=>⟨g,cap,cur,h1,bQ hbl.size h2,h3⟩⟩;clear kg ho1;go_wp2
   go_loopw [6,27] (fun pv u wq=>∃ (j:Nat),u=.int .i64 (j:Int)/\j<=zs.length/\Hid (wq.ownsRow w.heap.size 3 1 pv (cat (zs.take j)).length ((cat (zs.take j)).map (Value.int .i64)))/\Below w.heap.size w wq) (fun _ u _=>zs.length - (intOf u).toNat)
   case atStart=>exact⟨0,rfl,kQ _,by simpa [Hid,cat] using HO1.out,b1⟩
   case round =>
    obtain⟨j,rfl,hjt,HR,hbq⟩:=hrel;have hqs:=hbq.size;obtain⟨pa,pc,rfl⟩:=eF HR.out;obtain⟨P,hP⟩:∃ P,(cat (zs.take j)).length=P:=⟨_,rfl⟩;rw[hP] at HR ⊢;have HPB:Hid (P<=1073741824/\(cat (zs.take j)).length=P):=⟨by rw[<-hP];exact HLN.out j,hP⟩;clear hP;by_cases h2:j<zs.length
    ·obtain⟨b,o,sa,sc,xs,rfl,hb,hsg,d1,hI⟩:=HP.out.get hC hbq h2
     have hn2:P+xs.length<=1073741824:=by
      have h5:=HLN.out (j+1);rw[sC hsg,dJ,HPB.out.2] at h5;exact h5
     have HCT:Hid (cat (zs.take (j+1))=cat (zs.take j)++xs):=sC hsg;by_cases hx:xs=[]
     ·subst hx
      have hle:=ajZ HR.out;have hap:=fun(W:World) ty=>fiZ W ty pa sa P pc sc hle i0 hi hz1;have HR2:Hid (wr.ownsRow w.heap.size 3 1 (.slice pa P pc) (cat (zs.take (j+1))).length ((cat (zs.take (j+1))).map (Value.int .i64))):=by rw[Hid,HCT.out,fU,HPB.out.2];exact HR.out
      clear hsg hI HR hle;go_wp2_with (at_builtin;refine Lib.wpList_append_run _ rfl _ _ _ _ rfl _ _ rfl rfl _ _ (hap _ _) ?_)
      go_roundw
      case rel=>exact⟨j+1,by go_num,h2,HR2,hbq⟩
      case measure=>simp[intOf];omega
     ·obtain⟨sa',sc',hv,hscc,_,hxx⟩:=hI
      simp only[gZ] at hv;obtain⟨rfl,_,rfl⟩:=hv;obtain⟨b',o',rfl,hb',_,hcell⟩:=hxx hx
      have HCE:Hid (∀ m u,(xs.map (Value.int .i64))[m]? = some u->wr.cell? ((⟨b',o',none⟩:Addr).add m)=some u):=by
       intro m u hm;have hlt:m<xs.length:=by have:=(cQ.1 hm).1;simpa using this
       obtain⟨x,hx2⟩:=cX hlt;rw[iU,hcell m x hx2];simpa [hx2] using hm
      clear hsg hxx hcell;go_wp2_with (at_builtin;refine cL _ rfl _ _ 37 rfl w.heap.size 3 i0 (.int .i64 0) 1 8 underlying37 hi hz0 hz1 hz2 rfl (by decide) _ _ _ rfl HR.out ⟨b',o',none⟩ xs.length sc (xs.map (Value.int .i64)) rfl ?q1 ?q2 ?q3 ?q4 ?q5 ?q6 ?_)
      case q1=>simp
      case q2=>exact HCE.out
      case q3=>intro u hu;obtain⟨x,_,rfl⟩:=tX.1 hu;rfl
      case q4=>unfold maxLen;omega
      case q5=>omega
      case q6=>omega
      intro v2 w2 hown hgrow _
      have HR2:Hid (w2.ownsRow w.heap.size 3 1 v2 (cat (zs.take (j+1))).length ((cat (zs.take (j+1))).map (Value.int .i64))):=by
       rw[Hid,HCT.out,dJ,HPB.out.2,yY];exact hown
      have B2:Below w.heap.size w w2:=hbq.grown hgrow hqs (aO HR.out);obtain⟨a2,c2,hv2⟩:=eF hown;subst hv2;clear hown hgrow HR;go_wp2
      go_roundw
      case rel=>exact⟨j+1,by go_num,h2,HR2,B2⟩
      case measure=>simp[intOf];omega
    ·have htk:zs.take j=zs:=rJ (by omega)
     have HF:Hid (∀ m,m<w.heap.size->jQ wr wr.heap.size m (.slice pa P pc) (cat zs)):=by
      intro m hm;have h5:=HR.out;rw[htk] at h5;have h6:=HPB.out.2;rw[htk] at h6;exact nT h6.symm hs h5 hm
     clear htk HR;go_wp2;go_ret;exact⟨_,rfl,HF.out,hbq⟩
