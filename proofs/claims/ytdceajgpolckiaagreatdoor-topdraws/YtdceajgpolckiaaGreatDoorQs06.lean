import Derived.Test.YtdceajgpolckiaaGreatDoorQs05
import Derived.BigRegion
open Go.Proofs.Tryz
set_option linter.unusedSimpArgs false
set_option maxHeartbeats 16000000
set_option maxRecDepth 100000
namespace Go.Proofs.YtdceajgpolckiaaGreatDoor
section
open Go.RowKit Ds
def sZ (w:World) (lo:Nat) (v:Value) (ts:List Tr):Prop:=(v=.slice none 0 0/\ts=[])\/Own w lo v ts
theorem sZ.parts {w:World}{lo:Nat}{v:Value}{ts:List Tr}(h:sZ w lo v ts):pQ w w.heap.size v ts:=by
 rcases h with⟨rfl,rfl⟩|h
 ·exact nF _ _
 ·exact h.parts
theorem sZ.keep {w w':World}{lo:Nat}{v:Value}{ts:List Tr}(h:sZ w lo v ts)(hb:Below w.heap.size w w'):sZ w' lo v ts:=by
 rcases h with h|h
 ·exact .inl h
 ·exact .inr (h.keep hb)
theorem sZ.mono {w:World}{lo lo':Nat}{v:Value}{ts:List Tr}(h:sZ w lo v ts)(hl:lo'<=lo):sZ w lo' v ts:=by
 rcases h with h|h
 ·exact .inl h
 ·exact .inr (h.mono hl)
theorem sZ.slice {w:World}{lo:Nat}{v:Value}{ts:List Tr}(h:sZ w lo v ts):∃ a c,v=.slice a ts.length c:=by
 rcases h with⟨rfl,rfl⟩|⟨b,o,c,h,_⟩
 ·exact⟨_,_,rfl⟩
 ·exact⟨_,_,h⟩
theorem baQ (g:Nat)(l:List Pt)(p:Pt):fA g (l++[p])=Nat.gcd (fA g l) p.2.natAbs:=by
 induction l generalizing g with
 | nil=>rfl
 | cons q l ih=>simp only[kF,fA,ih]
theorem baX {l:List Pt}{i:Nat}{p:Pt}(h:l[i]? = some p):fA 0 (l.take (i+1))=Nat.gcd (fA 0 (l.take i)) p.2.natAbs:=by
 rw[nZ,h];exact baQ _ _ _
theorem baZ {l:List Pt}{M:Nat}(h:∀ p∈l,p.2.natAbs<=M)(hp:qJ l):fA 0 l<=M:=by
 rw[rC,Nat.gcd_zero_left];cases l with
 | nil=>simp[dv]
 | cons p l =>
  have h1:=h p (by simp);have h2:=hp p (by simp);exact aQ (Nat.le_of_dvd (by omega) (sC (l:=p::l) (by simp))) h1
def aJ (g:Int) (ts:List Tr) (i:Nat):List Tr:=(ts.take i).map (fun t=>(t.1,t.2.1,t.2.2 / g))++ts.drop i
theorem yO (g:Int)(ts:List Tr)(i:Nat):(aJ g ts i).length=ts.length:=by simp[aJ];omega
theorem baJ (g:Int){ts:List Tr}{i:Nat}(h:i<ts.length):(aJ g ts i)[i]? = ts[i]?:=by
 have e:((ts.take i).map (fun t:Tr=>(t.1,t.2.1,t.2.2 / g))).length=i:=by simp;omega
 rw[aJ,fH (by omega),e];simp
theorem bbQ (g:Int){ts:List Tr}{i:Nat}{t:Tr}(h:ts[i]? = some t):(aJ g ts i).set i (t.1,t.2.1,t.2.2 / g)=aJ g ts (i+1):=by
 have hi:=(gQ.1 h).1;have e:((ts.take i).map (fun t:Tr=>(t.1,t.2.1,t.2.2 / g))).length=i:=by simp;omega
 have e2:ts.drop i=t::ts.drop (i+1):=by rw[zV hi,(gQ.1 h).2]
 rw[aJ,aJ,nN _ _ (by omega),e,e2,nZ,h];simp
theorem bbX (g:Int)(ts:List Tr):rd (aJ g ts ts.length)=cut g (rd ts):=by simp[aJ,rd,cut]
theorem bbZ (g:Int)(ts:List Tr):aJ g ts 0=ts:=by simp[aJ]
theorem cE {g:Int}{ts:List Tr}{i:Nat}{t:Tr}(h:t∈aJ g ts i):∃ u∈ts,t.1=u.1/\t.2.1=u.2.1:=by
 rcases uY.1 h with h|h
 ·obtain⟨u,hu,rfl⟩:=yJ.1 h;exact⟨u,rD hu,rfl,rfl⟩
 ·exact⟨t,jC h,rfl,rfl⟩
theorem qJ.take {l:List Pt}(h:qJ l)(i:Nat):qJ (l.take i):=fun p hp=>h p (rD hp)
theorem bbJ (lo:Nat)(v:Value)(ts:List Tr)(w:World)(ho:Own w lo v ts)(hp:qJ (rd ts))(hM:tot (rd ts)<=4611686018427387904)(l:List Pt)(er:Int)(hr:rU (rd ts)=(l,er)) :
  Calls prog 114 #[v] w fun e w'=>∃ v' us,e=.returned (.tuple #[v',.int .i64 er])/\rd us=l/\sZ w' lo v' us/\Below lo w w'/\∀ t∈us,∃ u∈ts,t.1=u.1/\t.2.1=u.2.1:=by
 obtain⟨b,o,c,rfl,hc,hl,hlo,hrow,hI⟩:=ho;have HH:Hid (Row w b o ts/\(∀ t∈ts,xQ w w.heap.size b t.1 t.2.1)/\qJ (rd ts)/\tot (rd ts)<=4611686018427387904/\rU (rd ts)=(l,er)):=⟨hrow,hI,hp,hM,hr⟩;have hbs:=hrow.lt;clear hrow hI hp hM hr;by_cases h0:ts=[]
 ·subst h0
  have h1:=HH.out.2.2.2.2;obtain⟨rfl,rfl⟩:l=[]/\er=6:=by simp[rU,rd] at h1;exact⟨h1.1,h1.2.symm⟩
  clear h1 HH;go_enter func114,ntmps114;go_wp2;exact yQ (v:=.tuple #[.slice none 0 0,.int .i64 6]) (by simp[results,results114,go_sem]) rfl ⟨_,[],rfl,rfl,.inl ⟨rfl,rfl⟩,uQ _ _,fun t ht=>by cases ht⟩
 have hpos:0<ts.length:=by cases ts with|nil=>exact absurd rfl h0|cons _ _=>simp
 have hz0:((ts.length:Int) == 0)=false:=by simp;exact h0
 clear h0;go_enter func114,ntmps114;go_wp2
 go_loopw [4,13] (fun s u wr=>∃ (i g:Nat),s=.int .i64 (g:Int)/\u=.int .i64 (i:Int)/\i<=ts.length/\fA 0 ((rd ts).take i)=g/\Below w.heap.size w wr) (fun _ u _=>ts.length - (intOf u).toNat)
 case atStart=>exact⟨0,0,rfl,rfl,mQ _,by simp[fA],uQ _ _⟩
 case round =>
  obtain⟨i,g,rfl,rfl,hit,hg,hbl⟩:=hrel;have HG:Hid (fA 0 ((rd ts).take i)=g):=hg
  have hgb:g<=4611686018427387904:=by
   rw[<-hg];refine baZ (fun p hp=>?_) (qJ.take HH.out.2.2.1 i);have h1:=qJ.le_tot (Nn.of_pos HH.out.2.2.1) (rD hp);have h2:=HH.out.2.2.1 p (rD hp);have h3:=HH.out.2.2.2.1;omega
  clear hg;by_cases h1:i<ts.length
  ·obtain⟨⟨s,xs,k⟩,hs⟩:=lX h1
   obtain⟨sa,sc,he,_⟩:=HH.out.2.1 _ (vX hs);simp only at he;subst he;obtain⟨c1,c2⟩:=HH.out.1.cells.get hbl hbs hs;simp only at c1 c2;have HZ:Hid ((rd ts)[i]? = some (xs,k)):=sJ hs;have hk0:0<k:=HH.out.2.2.1 (xs,k) (vX HZ.out)
   have hk1:k<=4611686018427387904:=by
    have h1:=qJ.le_tot (Nn.of_pos HH.out.2.2.1) (vX HZ.out);have h3:=HH.out.2.2.2.1;simp only at h1;omega
   obtain⟨m,rfl⟩:=aU (fN hk0);have kc:=fun W=>oI g m (by omega) (by omega) W;have HN:Hid (fA 0 ((rd ts).take (i+1))=Nat.gcd g m):=by rw[Hid,baX HZ.out,HG.out];rfl
   clear hs;go_wp2_with (go_at_call 59;refine(kc _).mono ?_;rintro e w1 ⟨rfl,hb1⟩)
   go_roundw
   case rel=>exact⟨i+1,Nat.gcd g m,rfl,by go_num,h1,HN.out,bt (bal hbl _) hb1⟩
   case measure=>simp[intOf];omega
  ·have hgd:g=dv (rd ts):=by rw[<-HG.out,mF (by omega),rC,Nat.gcd_zero_left]
   have HD:Hid (g=dv (rd ts)):=hgd;have hg0:0<g:=by rw[hgd];exact pR HH.out.2.2.1 (by intro h;rw[<-oY,h] at hpos;simp at hpos)
   have HR:Hid (Row wr b o ts):=HH.out.1.keep hbl;have HI:Hid (∀ t∈ts,xQ wr wr.heap.size b t.1 t.2.1):=fun t ht=>(HH.out.2.1 t ht).at2 hbl;clear hgd HG;go_wp2
   go_loopw [24] (fun u wq=>∃ j:Nat,u=.int .i64 (j:Int)/\j<=ts.length/\Row wq b o (aJ g ts j)/\(∀ t∈ts,xQ wq wq.heap.size b t.1 t.2.1)/\Below lo w wq) (fun u _=>ts.length - (intOf u).toNat)
   case atStart=>exact⟨0,rfl,mQ _,by rw[bbZ];exact HR.out,HI.out,hbl.mono (by omega)⟩
   case round =>
    obtain⟨j,rfl,hjt,hrow,hints,hbq⟩:=hrel;have HR2:Hid (Row wr b o (aJ g ts j)):=hrow;have HI2:Hid (∀ t∈ts,xQ wr wr.heap.size b t.1 t.2.1):=hints;clear hrow hints;by_cases h2:j<ts.length
    ·obtain⟨⟨s,xs,k⟩,hs⟩:=lX h2
     have hs2:(aJ g ts j)[j]? = some (s,xs,k):=by rw[baJ _ h2];exact hs
     obtain⟨c1,c2⟩:=HR2.out.cells j _ hs2;have c3:=HR2.out.thaw (j*2+1) (by rw[yO];omega);rw[<-bA] at c3;simp only at c1 c2;have hk0:0<k:=HH.out.2.2.1 (xs,k) (vX (sJ hs))
     have hk1:k<=4611686018427387904:=by
      have h1:=qJ.le_tot (Nn.of_pos HH.out.2.2.1) (vX (sJ hs));have h3:=HH.out.2.2.2.1;simp only at h1;omega
     obtain⟨m,rfl⟩:=aU (fN hk0);have hdv:((m:Int) / (g:Int))<=4611686018427387904:=aH (nL _ (by omega)) hk1;have hdv0:0<=((m:Int) / (g:Int)):=mL (by omega) (by omega);have hgz:((g:Int) == 0)=false:=by simp;omega
     have HS:Hid (ts[j]? = some (s,xs,(m:Int))):=hs
     have HR3:Hid (Row (wr.setCell ⟨b,o+j*2+1,none⟩ (.int .i64 ((m:Int) / (g:Int)))) b o (aJ g ts (j+1))):=by
      have:=HR2.out.setW hs2 ((m:Int) / (g:Int));rwa [show(aJ g ts j).set j (s,xs,(m:Int) / (g:Int))=aJ g ts (j+1) from bbQ g hs] at this
     clear hs hs2;go_wp2
     go_roundw
     case rel=>exact⟨j+1,by go_num,h2,HR3.out,fun t ht=>by simpa using (HI2.out t ht).set rfl _,hbq.setCell (by simp;omega) _⟩
     case measure=>simp[intOf];omega
    ·have hj:j=ts.length:=by omega
     subst hj;have hcut:rd (aJ g ts ts.length)=cut (dv (rd ts)) (rd ts):=by rw[bbX,HD.out]
     have hI3:∀ t∈aJ g ts ts.length,xQ wr wr.heap.size b t.1 t.2.1:=by
      intro t ht;obtain⟨u,hu,e1,e2⟩:=cE ht;rw[e1,e2];exact HI2.out u hu
     have hown:Own wr lo (.slice (some ⟨b,o,none⟩) ts.length c) (aJ g ts ts.length):=⟨b,o,c,by rw[yO],by rw[yO];exact hc,by rw[yO];exact hl,hlo,HR2.out,hI3⟩;have HO:Hid (Own wr lo (.slice (some ⟨b,o,none⟩) ts.length c) (aJ g ts ts.length)):=hown
     have hnn:Nn (rd (aJ g ts ts.length)):=by
      rw[hcut];intro p hp;obtain⟨q,hq,rfl⟩:=yJ.1 hp;exact mL (fN (HH.out.2.2.1 q hq)) (by omega)
     obtain⟨T,hT⟩:∃ T,tot (cut (dv (rd ts)) (rd ts))=T:=⟨_,rfl⟩
     have hTle:T<=4611686018427387904:=by
      rw[<-hT,a4J fun p hp=>sR hp];exact aH (nL _ (Nn.of_pos HH.out.2.2.1).tot_nn) HH.out.2.2.2.1
     have kc:=aS wr.heap.size (.slice (some ⟨b,o,none⟩) ts.length c) (aJ g ts ts.length) wr (jQ _) hown.parts hnn (by rw[hcut,hT];exact hTle) T (by rw[hcut,hT]);have hlow:=HH.out.2.2.2.2;have hne:rd ts≠[]:=by intro h;rw[<-oY,h] at hpos;simp at hpos
     rw[rU,qQ hne,hT,oY] at hlow;have HL:Hid ((if 1073741824<T\/4096<ts.length then ([],4) else (cut (dv (rd ts)) (rd ts),(0:Int)))=(l,er)):=hlow;have HCU:Hid (rd (aJ g ts ts.length)=cut (dv (rd ts)) (rd ts)):=hcut;clear hlow hcut hI3 hown hnn hne hT HR2 HI2;by_cases hm:1073741824<T
     ·have hl2:=HL.out
      rw[zQ (.inl hm)] at hl2;simp only[cQ] at hl2;obtain⟨rfl,rfl⟩:=hl2;go_wp2_with (go_at_call 38;refine kc.mono ?_;rintro e w1 ⟨rfl,hb1⟩);exact yQ (v:=.tuple #[.slice none 0 0,.int .i64 4]) (by simp[results,results114,go_sem]) rfl ⟨_,[],rfl,rfl,.inl ⟨rfl,rfl⟩,hbq.trans (hb1.mono (by have:=hbq.size;omega)),fun t ht=>by cases ht⟩
     ·by_cases hm2:4096<ts.length
      ·have hl2:=HL.out
       rw[zQ (.inr hm2)] at hl2;simp only[cQ] at hl2;obtain⟨rfl,rfl⟩:=hl2;go_wp2_with (go_at_call 38;refine kc.mono ?_;rintro e w1 ⟨rfl,hb1⟩);exact yQ (v:=.tuple #[.slice none 0 0,.int .i64 4]) (by simp[results,results114,go_sem]) rfl ⟨_,[],rfl,rfl,.inl ⟨rfl,rfl⟩,hbq.trans (hb1.mono (by have:=hbq.size;omega)),fun t ht=>by cases ht⟩
      ·have hl2:=HL.out
       rw[qQ (by intro h;rcases h with h|h <;> omega)] at hl2;simp only[cQ] at hl2;obtain⟨hl2,rfl⟩:=hl2;have HL2:Hid (cut (dv (rd ts)) (rd ts)=l):=hl2;clear hl2;go_wp2_with (go_at_call 38;refine kc.mono ?_;rintro e w1 ⟨rfl,hb1⟩);exact yQ (v:=.tuple #[.slice (some ⟨b,o,none⟩) ts.length c,.int .i64 0]) (by simp[results,results114,go_sem]) rfl ⟨_,aJ g ts ts.length,rfl,HCU.out.trans HL2.out,.inr (HO.out.keep hb1),hbq.trans (hb1.mono (by have:=hbq.size;omega)),fun t ht=>cE ht⟩
theorem uO {l:List Pt}(h:l.all pJ=true):Nn l/\∀ p∈l,p.2<=1073741824:=by
 have h1:∀ p∈l,0<=p.2/\p.2<=1073741824:=by
  intro p hp;have:=mN.1 h p hp;simp[pJ] at this;exact this.1
 exact⟨fun p hp=>(h1 p hp).1,fun p hp=>(h1 p hp).2⟩
theorem bcQ {l:List Pt}(h:l.all pJ=true)(hl:l.length<=1073741824):tot l<=4611686018427387904:=by
 have h1:=a4X (uO h).2;have h2:(l.length:Int)*1073741824<=1073741824*1073741824:=yR (by omega) (by omega);omega
theorem rS (B:Nat)(v:Value)(ts:List Tr)(w:World)(hB:B<=w.heap.size)(hp:pQ w B v ts)(l:List Pt)(er:Int)(hr:rJ (rd ts)=(l,er)) :
  Calls prog 71 #[v] w fun e w'=>∃ v' us,e=.returned (.tuple #[v',.int .i64 er])/\rd us=l/\sZ w' w.heap.size v' us/\Below w.heap.size w w'/\mX w.heap.size us:=by
 have HP:Hid (pQ w B v ts):=hp;obtain⟨a,c,rfl,hc,hl,_⟩:=hp;cases hok:(rd ts).all pJ with
 | false =>
  rw[rJ,hok] at hr;simp only[Bool.false_eq_true,yK,cQ] at hr;obtain⟨rfl,rfl⟩:=hr;have kc:=yE B _ ts w hB HP.out _ hok;clear hok;go_enter func71,ntmps71;go_wp2_with (go_at_call 120;refine kc.mono ?_;rintro e w1 ⟨rfl,hb1⟩);exact yQ (v:=.tuple #[.slice none 0 0,.int .i64 3]) (by simp[results,results71,go_sem]) rfl ⟨_,[],rfl,rfl,.inl ⟨rfl,rfl⟩,hb1,mX.nil _⟩
 | true =>
  rw[rJ,hok] at hr;simp only[oG] at hr;have kc:=yE B _ ts w hB HP.out _ hok;have hM:=bcQ hok (by rw[oY];exact hl);have HK:Hid (rU (gath (rd ts))=(l,er)/\Nn (rd ts)/\tot (rd ts)<=4611686018427387904):=⟨hr,(uO hok).1,hM⟩;clear hok hr hM;go_enter func71,ntmps71;go_wp2_with (go_at_call 120;refine kc.mono ?_;rintro e w1 ⟨rfl,hb1⟩);refine(a9J B _ ts w1 (aQ hB hb1.size) (HP.out.at hB hb1) HK.out.2.1 HK.out.2.2 _ rfl).mono ?_;rintro e w2 ⟨v2,us,rfl,ho2,hrd,hb2,hfr2⟩;have hbb:Below w.heap.size w w2:=bt hb1 hb2;have HFR2:Hid (mX w.heap.size us):=hfr2.mono hb1.size;have kl:=bbJ w.heap.size v2 us w2 (ho2.mono hb1.size) (by rw[hrd];exact xO HK.out.2.1) (by rw[hrd,tC];exact HK.out.2.2) l er (by rw[hrd];exact HK.out.1);obtain⟨b',o',c',rfl,_⟩:=ho2;clear kc hb2 hfr2;go_wp2_with fail;refine kl.mono ?_;rintro e w3 ⟨v3,us3,rfl,hrd3,ho3,hb3,hsub⟩;obtain⟨a3,c3,rfl⟩:=ho3.slice;have HO3:Hid (sZ w3 w.heap.size (.slice a3 us3.length c3) us3):=ho3;have HR3:Hid (rd us3=l):=hrd3;have HFR:Hid (mX w.heap.size us3):=HFR2.out.of hsub;clear ho3 hrd3 hrd kl hsub;go_wp2;exact yQ (v:=.tuple #[.slice a3 us3.length c3,.int .i64 er]) (by simp[results,results71,go_sem]) rfl ⟨_,us3,rfl,HR3.out,HO3.out,hbb.trans hb3,HFR.out⟩
theorem bcX {α:Type}{l k:List α}{i:Nat}{x:α}(h:l.take i=k.take i)(hl:l[i]? = some x)(hk:k[i]? = some x):l.take (i+1)=k.take (i+1):=by
 rw[nZ,nZ,h,hl,hk]
theorem dE (B:Nat)(u v:Value)(ts us:List Tr)(w:World)(hB:B<=w.heap.size)(hp:pQ w B u ts)(hq:pQ w B v us)(r:Bool)(hr:decide (rd ts=rd us)=r) :
  Calls prog 72 #[u,v,.func (.func 73) #[] #[]] w fun e w'=>e=.returned (.bool r)/\Below w.heap.size w w':=by
 have HP:Hid (pQ w B u ts):=hp;have HQ:Hid (pQ w B v us):=hq;have HR:Hid (decide (rd ts=rd us)=r):=hr;obtain⟨a,c,rfl,hc,hl,_⟩:=hp;obtain⟨a2,c2,rfl,hc2,hl2,_⟩:=hq;clear hr;by_cases hlen:ts.length=us.length
 ·have hle:(((ts.length:Int)) == (us.length:Int))=true:=by simp[hlen]
  have hle2:(((ts.length:Int)) != (us.length:Int))=false:=by simp[hlen]
  have HLN:Hid (ts.length=us.length):=hlen;clear hlen;go_enter func72,ntmps72;go_wp2
  go_loopw [17] (fun s wr=>∃ i:Nat,s=.int .i64 (i:Int)/\i<=ts.length/\(rd ts).take i=(rd us).take i/\Below w.heap.size w wr) (fun s _=>ts.length - (intOf s).toNat)
  case atStart=>exact⟨0,rfl,mQ _,by simp,uQ _ _⟩
  case round =>
   obtain⟨i,rfl,hit,htk,hbl⟩:=hrel;have HT:Hid ((rd ts).take i=(rd us).take i):=htk;clear htk;by_cases h1:i<ts.length
   ·obtain⟨b,o,sa,sc,xs,k,rfl,hb,hs,c1,c2',hI⟩:=HP.out.get hB hbl h1
    obtain⟨b2,o2,sa2,sc2,xs2,k2,rfl,hb2,hs2,d1,d2,hI2⟩:=HQ.out.get hB hbl (i:=i) (by have:=HLN.out;omega);have HS:Hid ((rd ts)[i]? = some (xs,k)):=sJ hs;have HS2:Hid ((rd us)[i]? = some (xs2,k2)):=sJ hs2;have HI:Hid (xQ wr B B (.slice sa xs.length sc) xs):=hI;have HI2:Hid (xQ wr B B (.slice sa2 xs2.length sc2) xs2):=hI2;have hs1:=hbl.size;have z1:(i:Int)<(us.length:Int):=by have:=HLN.out;omega
    have n1:b<wr.heap.size:=by omega
    have n2:b2<wr.heap.size:=by omega
    clear hs hs2 hI hI2;by_cases he:k=k2/\xs=xs2
    ·have hd:Hid (decide (k=k2/\xs=xs2)=true):=uG he
     have HE:Hid ((xs2,k2)=(xs,k)):=by rw[Hid,he.1,he.2]
     clear he;go_wp2_with (go_at_call 73;refine(zE B B B _ _ _ _ xs xs2 _ ?_ ?_ ?_ _ hd.out).mono ?_;(simp;omega);(exact HI.out.at (by omega) (bal (ba _ _) _));(exact HI2.out.at (by omega) (bal (ba _ _) _));rintro e w1 ⟨rfl,hb1⟩)
     go_roundw
     case rel=>exact⟨i+1,by go_num,h1,bcX HT.out HS.out (by rw[HS2.out,HE.out]),bt (bal (bal hbl _) _) hb1⟩
     case measure=>simp[intOf];omega
    ·have hd:Hid (decide (k=k2/\xs=xs2)=false):=dV he
     have hr1:r=false:=by
      rw[<-HR.out];refine dV fun h=>he ?_;have h2:=HS.out;rw[h,HS2.out] at h2;simp only[sX,cQ] at h2;exact⟨h2.2.symm,h2.1.symm⟩
     subst hr1;clear he;go_wp2_with (go_at_call 73;refine(zE B B B _ _ _ _ xs xs2 _ ?_ ?_ ?_ _ hd.out).mono ?_;(simp;omega);(exact HI.out.at (by omega) (bal (ba _ _) _));(exact HI2.out.at (by omega) (bal (ba _ _) _));rintro e w1 ⟨rfl,hb1⟩);go_ret;exact⟨rfl,bt (bal (bal hbl _) _) hb1⟩
   ·have hr1:r=true:=by
     rw[<-HR.out];refine uG ?_;have:=HT.out;rwa [mF (by omega),mF (by have:=HLN.out;omega)] at this
    subst hr1;go_wp2;go_ret;exact⟨rfl,hbl⟩
 ·have hle:(((ts.length:Int)) == (us.length:Int))=false:=by simp;omega
  have hle2:(((ts.length:Int)) != (us.length:Int))=true:=by simp;omega
  have hr1:r=false:=by
   rw[<-HR.out];refine dV fun h=>hlen ?_;rw[<-oY,h,oY]
  subst hr1;go_enter func72,ntmps72;go_wp2;go_ret;exact⟨rfl,uQ _ _⟩
def qY (l:List Pt):List Pt × Int:=if (rJ l).2=0 then if (rJ l).1=l then (l,0) else ([],2) else ([],(rJ l).2)
theorem bcZ (l:List Pt):(rU l).2=0\/(rU l).1=[]:=by
 unfold rU;split
 ·exact .inr rfl
 ·split
  ·exact .inr rfl
  ·exact .inl rfl
theorem bcJ (l:List Pt):(rJ l).2=0\/(rJ l).1=[]:=by
 unfold rJ;split
 ·exact bcZ _
 ·exact .inr rfl
theorem bdQ (B:Nat)(v:Value)(ts:List Tr)(w:World)(hB:B<=w.heap.size)(hp:pQ w B v ts)(l:List Pt)(er:Int)(hr:qY (rd ts)=(l,er)) :
  Calls prog 35 #[v] w fun e w'=>∃ v' us,e=.returned (.tuple #[v',.int .i64 er])/\rd us=l/\sZ w' w.heap.size v' us/\Below w.heap.size w w'/\mX w.heap.size us:=by
 have HP:Hid (pQ w B v ts):=hp;obtain⟨a,c,rfl,hc,hl,_⟩:=hp;obtain⟨⟨m,e1⟩,hm⟩:∃ m,rJ (rd ts)=m:=⟨_,rfl⟩;have kc:=rS B _ ts w hB HP.out m e1 hm;have hme:=bcJ (rd ts);rw[qY,hm] at hr;rw[hm] at hme;simp only at hr hme;have HR:Hid ((if e1=0 then if m=rd ts then (rd ts,0) else ([],2) else ([],e1))=(l,er)/\(e1=0\/m=[])):=⟨hr,hme⟩;clear hr hme hm;go_enter func35,ntmps35;go_wp2_with fail;refine kc.mono ?_;rintro e w1 ⟨v1,us,rfl,hrd,ho,hb1,hfr⟩;have HFR:Hid (mX w.heap.size us):=hfr;clear hfr;have HO:Hid (sZ w1 w.heap.size v1 us):=ho;have HD:Hid (rd us=m):=hrd;obtain⟨a1,c1,rfl⟩:=ho.slice;clear ho hrd kc;by_cases h0:e1=0
 ·subst h0
  have hP1:pQ w1 w1.heap.size (.slice a ts.length c) ts:=(HP.out.at hB hb1).mono (aQ hB hb1.size);by_cases h2:m=rd ts
  ·have h3:=HR.out.1
   rw[zQ rfl,zQ h2] at h3;simp only[cQ] at h3;obtain⟨h3,rfl⟩:=h3;have HL:Hid (rd us=l):=by rw[Hid,HD.out,h2,h3]
   have ke:=dE w1.heap.size _ _ ts us w1 (jQ _) hP1 HO.out.parts true (uG (by rw[HD.out,h2]));clear h2 h3 hP1;go_wp2_with fail;refine ke.mono ?_;rintro e w2 ⟨rfl,hb2⟩;clear ke;go_wp2;exact yQ (v:=.tuple #[.slice a1 us.length c1,.int .i64 0]) (by simp[results,results35,go_sem]) rfl ⟨_,us,rfl,HL.out,HO.out.keep hb2,bt hb1 hb2,HFR.out⟩
  ·have h3:=HR.out.1
   rw[zQ rfl,qQ h2] at h3;simp only[cQ] at h3;obtain⟨rfl,rfl⟩:=h3;have ke:=dE w1.heap.size _ _ ts us w1 (jQ _) hP1 HO.out.parts false (dV (by rw[HD.out];exact fun h=>h2 h.symm));clear h2 hP1;go_wp2_with fail;refine ke.mono ?_;rintro e w2 ⟨rfl,hb2⟩;clear ke;go_wp2;exact yQ (v:=.tuple #[.slice none 0 0,.int .i64 2]) (by simp[results,results35,go_sem]) rfl ⟨_,[],rfl,rfl,.inl ⟨rfl,rfl⟩,bt hb1 hb2,mX.nil _⟩
 ·have h3:=HR.out.1
  have h4:=HR.out.2;rw[qQ h0] at h3;simp only[cQ] at h3;obtain⟨rfl,rfl⟩:=h3
  have HL:Hid (rd us=[]):=by
   rcases h4 with h|h
   ·exact absurd h h0
   ·rw[Hid,HD.out,h]
  have h0':(e1 == 0)=false:=by simpa using h0
  clear h4;go_wp2;exact yQ (v:=.tuple #[.slice a1 us.length c1,.int .i64 e1]) (by simp[results,results35,go_sem]) rfl ⟨_,us,rfl,HL.out,HO.out,hb1,HFR.out⟩
theorem bdX (B:Nat)(v:Value)(ts:List Tr)(w:World)(hB:B<=w.heap.size)(hp:pQ w B v ts)(l:List Pt)(er:Int)(hr:qY (rd ts)=(l,er)) :
  Calls prog 35 #[v] w fun e w'=>∃ v' us,e=.returned (.tuple #[v',.int .i64 er])/\rd us=l/\sZ w' w.heap.size v' us/\Below w.heap.size w w' :=
 (bdQ B v ts w hB hp l er hr).mono fun _ _ ⟨v',us,h1,h2,h3,h4,_⟩=>⟨v',us,h1,h2,h3,h4⟩
theorem bdZ (w:World)(B nb:Nat)(v:Value)(xs:List Int)(k:Int)(hB:B<=w.heap.size)(h:xQ w B nb v xs) :
  pQ (w.alloc (.cells #[v,.int .i64 k] 77)) (w.heap.size+1) (.slice (some ⟨w.heap.size,0,none⟩) 1 1) [(v,xs,k)]:=by
 refine⟨_,1,rfl,by simp,by simp,fun t ht=>?_,fun _=>⟨w.heap.size,0,rfl,by omega,fun i t hi=>?_⟩⟩
 ·simp at ht;subst ht
  exact(h.at hB (ba _ _)).mono (by omega) (.inr (by omega))
 ·match i,hi with
  | 0,hi =>
   simp at hi;subst hi;exact⟨by simp[go_sem],by simp[go_sem]⟩
end
section
open Go.RowKit
abbrev rv (n m:Int):Value:=.agg #[.int .i64 n,.int .i64 m]
theorem bdJ (u d n m e:Int)(hu:u<=9223372036854775807)(hd:d<=9223372036854775807)(h:Rt.vV u d=(n,m,e))(w:World) :
  Calls prog 30 #[.int .i64 u,.int .i64 d] w fun x w'=>x=.returned (.tuple #[rv n m,.int .i64 e])/\Below w.heap.size w w':=by
 have H:Hid (Rt.vV u d=(n,m,e)):=h;clear h;by_cases c1:u<0
 ·have hr:(0,0,3)=(n,m,e):=by rw[<-H.out];unfold Rt.vV;rw[zQ (.inl c1)]
  simp only[cQ] at hr;obtain⟨rfl,rfl,rfl⟩:=hr;go_enter func30,ntmps30;go_wp2;exact yQ (v:=.tuple #[rv 0 0,.int .i64 3]) (by simp[results,results30,go_sem]) rfl ⟨rfl,ba _ _⟩
 by_cases c2:d<1
 ·have hr:(0,0,3)=(n,m,e):=by rw[<-H.out];unfold Rt.vV;rw[zQ (.inr c2)]
  simp only[cQ] at hr;obtain⟨rfl,rfl,rfl⟩:=hr;go_enter func30,ntmps30;go_wp2;exact yQ (v:=.tuple #[rv 0 0,.int .i64 3]) (by simp[results,results30,go_sem]) rfl ⟨rfl,ba _ _⟩
 have hm:=Rt.qS u d n m e (by omega) (by omega) H.out;clear H;obtain⟨x,rfl⟩:=aU (show 0<=u by omega);obtain⟨y,rfl⟩:=aU (show 0<=d by omega);rw[show Int.gcd (x:Int) (y:Int)=Nat.gcd x y from rfl] at hm;have hg1:1<=Nat.gcd x y:=Nat.gcd_pos_of_pos_right _ (by omega);have hg2:Nat.gcd x y<=y:=Nat.gcd_le_right _ (by omega);have q1:0<=(x:Int) / (Nat.gcd x y:Nat):=mL (by omega) (by omega);have q2:0<=(y:Int) / (Nat.gcd x y:Nat):=mL (by omega) (by omega);have q3:(x:Int) / (Nat.gcd x y:Nat)<=9223372036854775807:=aH (nL _ (by omega)) hu;have q4:(y:Int) / (Nat.gcd x y:Nat)<=9223372036854775807:=aH (nL _ (by omega)) hd;rcases hm with⟨hc,rfl,rfl,rfl⟩|⟨hc1,hc2,rfl,rfl,rfl⟩
 ·have hc':1073741824<(x:Int) / (Nat.gcd x y:Nat)\/((x:Int) / (Nat.gcd x y:Nat)<=1073741824/\1073741824<(y:Int) / (Nat.gcd x y:Nat)):=by omega
  clear hc;rcases hc' with hc1|⟨hc1,hc2⟩
  all_goals
   go_enter func30,ntmps30;go_wp2_with (go_at_call 59;refine(oI _ _ (by omega) (by omega) _).mono ?_;rintro e w' ⟨rfl,hbl⟩);obtain⟨hcell,hfroz⟩:=bcell hbl;generalize Nat.gcd x y=g at *
   have hz:w.heap.size<w'.heap.size:=by have:=hbl.size;simp at this;omega
   go_region
   go_wp2;exact yQ (v:=.tuple #[rv 0 0,.int .i64 4]) (by simp[results,results30,go_sem,hcell,hz]) rfl ⟨rfl,(bal (bs (bs (bt (ba _ _) hbl) (jQ _) _) (jQ _) _) _).drew⟩
 ·go_enter func30,ntmps30
  go_wp2_with (go_at_call 59;refine(oI _ _ (by omega) (by omega) _).mono ?_;rintro e w' ⟨rfl,hbl⟩);obtain⟨hcell,hfroz⟩:=bcell hbl;have hz:w.heap.size<w'.heap.size:=by have:=hbl.size;simp at this;omega
  go_region
  go_wp2;exact yQ (v:=.tuple #[rv (x / (Nat.gcd x y:Nat)) (y / (Nat.gcd x y:Nat)),.int .i64 0]) (by simp[results,results30,go_sem,hcell,hz]) rfl ⟨rfl,(bal (bs (bs (bt (ba _ _) hbl) (jQ _) _) (jQ _) _) _).drew⟩
end
section
open Go.RowKit Ds
structure Dis (l:List Pt):Prop where
 rise:mV l
 pos:qJ l
 le:tot l<=1073741824
 ne:l≠[]
 ok:l.all pJ=true
 few:l.length<=4096
 one:dv l=1
theorem beQ {g:Int}{l:List Pt}(h:mV l):mV (cut g l):=by
 unfold mV cut;rw[List.pairwise_map];exact h
theorem eE (g:Nat):∀ l:List Pt,dv (l.map fun p=>(p.1,(g:Int)*p.2))=g*dv l
 | []=>by simp[dv]
 | p::l=>by
  simp only[bH,dv,eE g l];rw[Int.natAbs_mul,Int.natAbs_natCast,Nat.gcd_mul_left]
theorem fE {l:List Pt}{g:Nat}(h:∀ p∈l,(g:Int) ∣ p.2):(cut g l).map (fun p=>(p.1,(g:Int)*p.2))=l:=by
 simp only[cut,List.map_map]
 conv=>rhs;rw[<-List.map_id l]
 refine uR fun p hp=>?_;simp only[Function.comp,id];rw[Int.mul_ediv_cancel' (h p hp)]
theorem gE {l m:List Pt}(hp:qJ l)(hr:mV l)(h:rU l=(m,0)):mV m/\qJ m/\tot m<=1073741824/\m≠[]/\m.length<=4096/\dv m=1:=by
 unfold rU at h;split at h
 ·simp at h
 ·rename_i hne
  split at h
  ·simp at h
  ·rename_i hc
   simp only[cQ,qM] at h;subst h;have hd:=pR hp hne;have hdv:∀ p∈l,((dv l:Nat):Int) ∣ p.2:=fun p hp=>sR hp;refine⟨beQ hr,?_,by omega,?_,by rw[a4Q];omega,?_⟩
   ·intro p hpm
    obtain⟨q,hq,rfl⟩:=yJ.1 hpm;have h1:=hp q hq;exact Int.ediv_pos_of_pos_of_dvd h1 (by omega) (hdv q hq)
   ·simp[cut,hne]
   ·have e:=eE (dv l) (cut (dv l) l)
    rw[fE hdv] at e;exact Nat.eq_of_mul_eq_mul_left hd (by rw[<-e,Nat.mul_one])
theorem aO {l m:List Pt}(h:qY l=(m,0)):m=l/\Dis l:=by
 unfold qY at h;split at h
 ·rename_i h0
  split at h
  ·rename_i h1
   simp only[cQ,qM] at h;have hm:rJ l=(l,0):=Prod.ext h1 h0;unfold rJ at hm;split at hm
   ·rename_i hok
    obtain⟨a,b,c,d,e,f⟩:=gE (xO (uO hok).1) (oR l) hm;exact⟨h.symm,a,b,c,d,hok,e,f⟩
   ·simp at hm
  ·simp at h
 ·rename_i h0
  simp only[cQ] at h;exact absurd h.2 h0
theorem beX {l:List Pt}(h:mV l){i:Nat}{p:Pt}(hp:l[i]? = some p):wt l p.1=p.2:=by
 induction l generalizing i with
 | nil=>simp at hp
 | cons q l ih =>
  cases i with
  | zero=>simp at hp;subst hp;exact nI h
  | succ i =>
   simp at hp;rw[tY,ih (nR h) hp,qQ (kK ((cH.1 h).1 p (vX hp)))];omega
end
namespace Ds
abbrev Nx:=List Int->Option (List Int × Int × List Int)
def vD (nx:Nx):Nat->List Int->List Pt
 | 0,_=>[]
 | t+1,l=>match nx l with
  | none=>[]
  | some (o,u,r)=>(o,u)::vD nx t r
theorem beZ {nx:Nx}{t:Nat}{l:List Int}(h:nx l=none):vD nx t l=[]:=by
 cases t with
 | zero=>rfl
 | succ t=>simp[vD,h]
theorem beJ {nx:Nx}{t:Nat}{l r:List Int}{o:List Int}{u:Int}(h:nx l=some (o,u,r)):vD nx (t+1) l=(o,u)::vD nx t r:=by
 simp[vD,h]
def tJ (l:List Int):Bool:=l.any fun b=>decide (b≠0/\b≠1)
def cY (bits:List Int) (times:Int):Int:=if 65536<bits.length then 5 else if times<0\/4096<times\/tJ bits=true then 3 else 0
def su (f:Nat->Nat):Nat->Nat
 | 0=>0
 | k+1=>su f k+f k
theorem rH {f g:Nat->Nat}{k:Nat}(h:∀ i,i<k->f i=g i):su f k=su g k:=by
 induction k with
 | zero=>rfl
 | succ k ih=>simp only[su];rw[ih fun i hi=>h i (by omega),h k (by omega)]
theorem iE (k:Nat):su (fun _=>0) k=0:=by
 induction k with
 | zero=>rfl
 | succ k ih=>simp only[su];rw[ih]
theorem kE (f:Nat->Nat)(k:Nat):su f (2*k)=su (fun i=>f (2*i)+f (2*i+1)) k:=by
 induction k with
 | zero=>rfl
 | succ k ih=>rw[show 2*(k+1)=2*k+1+1 by omega];simp only[su];rw[ih];omega
theorem sS (f:Nat->Nat)(a b:Nat):su f (a+b)=su f a+su (fun i=>f (a+i)) b:=by
 induction b with
 | zero=>rfl
 | succ b ih=>rw[<-bA];simp only[su];rw[ih];omega
theorem bfQ (f g:Nat->Nat)(k:Nat)(h:∀ i,i<k->f i<=g i):su f k<=su g k:=by
 induction k with
 | zero=>exact jQ _
 | succ k ih=>simp only[su];have:=ih fun i hi=>h i (by omega);have:=h k (by omega);omega
theorem bfX (a k:Nat):su (fun _=>a) k=k*a:=by
 induction k with
 | zero=>simp[su]
 | succ k ih=>simp only[su];rw[ih,Nat.succ_mul]
def sm (f:List Int->Nat):Nat->Nat
 | 0=>f []
 | L+1=>sm (fun l=>f (0::l)) L+sm (fun l=>f (1::l)) L
theorem lE {f g:List Int->Nat}{L:Nat}(h:∀ l,f l=g l):sm f L=sm g L:=by rw[show f=g from funext h]
theorem mE (a L:Nat):sm (fun _=>a) L=a*2 ^ L:=by
 induction L with
 | zero=>simp[sm]
 | succ L ih=>simp only[sm];rw[ih,eR,<-Nat.mul_assoc];omega
theorem bfZ (f:List Int->Nat)(L:Nat):sm (fun l=>f (l++[0])+f (l++[1])) L=sm f (L+1):=by
 induction L generalizing f with
 | zero=>rfl
 | succ L ih =>
  have h1:=ih (fun l=>f (0::l));have h2:=ih (fun l=>f (1::l));rw[sm,show sm f (L+1+1)=sm (fun l=>f (0::l)) (L+1)+sm (fun l=>f (1::l)) (L+1) from rfl,<-h1,<-h2];rfl
def dg (j:Nat):Nat->List Int
 | 0=>[]
 | L+1=>dg (j / 2) L++[((j % 2:Nat):Int)]
theorem bfJ (j L:Nat):(dg j L).length=L:=by
 induction L generalizing j with
 | zero=>rfl
 | succ L ih=>simp[dg,ih]
theorem bgQ (j L:Nat):tJ (dg j L)=false:=by
 induction L generalizing j with
 | zero=>rfl
 | succ L ih =>
  have h:=ih (j / 2);simp only[tJ,dg,List.any_append] at *
  rw[h];simp;omega
theorem bgX (f:List Int->Nat)(L:Nat):su (fun j=>f (dg j L)) (2 ^ L)=sm f L:=by
 induction L generalizing f with
 | zero=>simp[su,sm,dg]
 | succ L ih =>
  rw[eR,Nat.mul_comm,kE,<-bfZ,<-ih];refine rH fun i _=>?_;simp only[dg];rw[show 2*i / 2=i by omega,show(2*i+1) / 2=i by omega,show 2*i % 2=0 by omega,show(2*i+1) % 2=1 by omega];rfl
def rm (T pl w:Int):Int:=w*pl % T
def qX (T pl:Int) (l:List Pt):List (List Int):=(l.filter fun p=>decide (T<=2*rm T pl p.2)).map (·.1)
def pY (T:Int) (l:List Pt):Int->Int->Int->List Int->Option (List Int × Int × List Int)
 | _,_,_,[]=>none
 | pl,node,u,b::r=>match (qX T pl l)[(2*node+b).toNat]? with
  | some o=>some (o,u+1,r)
  | none=>pY T l (2*pl % T) (2*node+b - (qX T pl l).length) (u+1) r
def nV (l:List Pt):Nx:=fun bits=>match l with
 | [p]=>some (p.1,0,bits)
 | l=>pY (tot l) l 1 0 0 bits
theorem oE (a b n:Int):a*(b % n) % n=a*b % n:=by rw[Int.mul_emod,Int.emod_emod,<-Int.mul_emod]
theorem bO {T:Int}(hT:0<T)(pl w:Int):0<=rm T pl w/\rm T pl w<T:=⟨Int.emod_nonneg _ (by omega),Int.emod_lt_of_pos _ hT⟩
theorem pE {T r:Int}(hr:0<=r/\r<T):2*r % T=if T<=2*r then 2*r - T else 2*r:=by
 by_cases h:T<=2*r
 ·rw[zQ h,show 2*r=(2*r - T)+T*1 by omega,Int.add_mul_emod_self_left,Int.emod_eq_of_lt (by omega) (by omega)]
  omega
 ·rw[qQ h,Int.emod_eq_of_lt (by omega) (by omega)]
theorem rE (T pl w:Int):rm T (2*pl % T) w=2*rm T pl w % T:=by
 unfold rm;rw[oE,oE,<-zD,<-zD,Int.mul_comm w 2]
def tr (T pl:Int):List Pt->Int
 | []=>0
 | p::l=>rm T pl p.2+tr T pl l
theorem cO (T pl:Int)(p:Pt)(l:List Pt):qX T pl (p::l)=if T<=2*rm T pl p.2 then p.1::qX T pl l else qX T pl l:=by
 unfold qX;rw[List.filter_cons];by_cases h:T<=2*rm T pl p.2
 ·rw[zQ h,zQ (uG h)];rfl
 ·rw[qQ h,qQ (by simp;omega)]
theorem sE (T pl:Int)(l k:List Pt):qX T pl (l++k)=qX T pl l++qX T pl k:=by simp[qX]
theorem tE {T:Int}(hT:0<T)(pl:Int)(l:List Pt):tr T (2*pl % T) l=2*tr T pl l - T*(qX T pl l).length:=by
 induction l with
 | nil=>simp[tr,qX]
 | cons p l ih =>
  have h1:=bO hT pl p.2;simp only[tr];rw[ih,rE,pE h1,cO];split
  ·have e:T*((qX T pl l).length+1:Int)=T*(qX T pl l).length+T:=by rw[Int.mul_add,Int.mul_one]
   simp only[nD];rw[gN,Int.natCast_one,e];omega
  ·omega
theorem qW {T:Int}(hT:0<T)(pl:Int)(l:List Pt):0<=tr T pl l/\tr T pl l<=T*l.length:=by
 induction l with
 | nil=>simp[tr]
 | cons p l ih =>
  have h1:=bO hT pl p.2;simp only[tr,nD];rw[gN,Int.mul_add,Int.natCast_one,Int.mul_one];omega
theorem xW {T:Int}(l:List Pt)(h:∀ p∈l,0<=p.2/\p.2<T):tr T 1 l=tot l:=by
 induction l with
 | nil=>rfl
 | cons p l ih =>
  have:=h p (by simp);rw[tr,jV,ih fun q hq=>h q (by simp[hq]),rm,Int.mul_one,Int.emod_eq_of_lt this.1 this.2]
def Nd (T pl:Int) (l:List Pt) (node:Int):Prop:=∃ I:Int,tr T pl l=T*I/\0<=node/\node<I
theorem Nd.le {T pl:Int}{l:List Pt}{node:Int}(h:Nd T pl l node)(hT:0<T):0<=node/\node<l.length:=by
 obtain⟨I,h1,h2,h3⟩:=h;have h4:=(qW hT pl l).2;rw[h1] at h4;have:=Int.le_of_mul_le_mul_left h4 hT;omega
theorem Nd.next {T pl:Int}{l:List Pt}{node b:Int}(h:Nd T pl l node)(hT:0<T)(hb:0<=b/\b<=1)(hm:((qX T pl l).length:Int)<=2*node+b):Nd T (2*pl % T) l (2*node+b - (qX T pl l).length):=by
 obtain⟨I,h1,h2,h3⟩:=h;refine⟨2*I - (qX T pl l).length,?_,by omega,by omega⟩;rw[tE hT,h1,Int.mul_sub,<-zD,<-zD,Int.mul_comm T 2]
theorem Nd.start {l:List Pt}(h:∀ p∈l,0<=p.2/\p.2<tot l):Nd (tot l) 1 l 0:=⟨1,by rw[xW l h,Int.mul_one],by omega,by omega⟩
def gA (T:Int) (l:List Pt):Int->Int->List Int->Option (List Int)
 | _,_,[]=>none
 | pl,node,b::r=>match (qX T pl l)[(2*node+b).toNat]? with
  | some o=>some o
  | none=>gA T l (2*pl % T) (2*node+b - (qX T pl l).length) r
theorem bgZ (T:Int)(l:List Pt)(pl node u:Int)(bits:List Int):(pY T l pl node u bits).map (·.1)=gA T l pl node bits:=by
 induction bits generalizing pl node u with
 | nil=>rfl
 | cons b r ih =>
  simp only[pY,gA];cases (qX T pl l)[(2*node+b).toNat]? with
  | some o=>rfl
  | none=>exact ih _ _ _
theorem bgJ (T:Int)(l:List Pt)(pl:Int)(f:Option (List Int)->Nat)(L I I':Nat)(hI:2*I=(qX T pl l).length+I') :
  su (fun(c:Nat)=>sm (fun bs=>f (gA T l pl c bs)) (L+1)) I =
   su (fun c=>f (qX T pl l)[c]? * 2 ^ L) (qX T pl l).length+su (fun(c:Nat)=>sm (fun bs=>f (gA T l (2*pl % T) c bs)) L) I':=by
 have e0:∀ c:Nat,sm (fun bs=>f (gA T l pl c bs)) (L+1)=sm (fun bs=>f (gA T l pl c (0::bs))) L+sm (fun bs=>f (gA T l pl c (1::bs))) L:=fun c=>rfl
 have e1:su (fun(c:Nat)=>sm (fun bs=>f (gA T l pl c bs)) (L+1)) I=su (fun(d:Nat)=>sm (fun bs=>f (match (qX T pl l)[d]? with|some o=>some o|none=>gA T l (2*pl % T) ((d:Int) - (qX T pl l).length) bs)) L) (2*I):=by
  rw[kE];refine rH fun c _=>?_;rw[e0];simp only[gA];rw[show((2*(c:Int)+0).toNat)=2*c by omega,show((2*(c:Int)+1).toNat)=2*c+1 by omega,show((2*c:Nat):Int)=2*(c:Int)+0 by omega,show((2*c+1:Nat):Int)=2*(c:Int)+1 by omega]
 rw[e1,hI,sS];congr 1
 ·refine rH fun d hd=>?_
  rw[fZ hd]
  show sm (fun _=>f (some (qX T pl l)[d])) L=_
  exact mE _ _
 ·refine rH fun d _=>?_
  rw[cI (by omega),show(((qX T pl l).length+d:Nat):Int) - (qX T pl l).length=d by omega]
def dO (l:List Pt):Prop:=l.Pairwise fun p q=>p.1≠q.1
theorem bhQ {T pl:Int}{l:List Pt}(h:dO l){p:Pt}(hp:p∈l)(a:Nat) :
  su (fun c=>(if (qX T pl l)[c]? = some p.1 then 1 else 0)*a) (qX T pl l).length=if T<=2*rm T pl p.2 then a else 0:=by
 have none:∀ k:List Pt,(∀ q∈k,p.1≠q.1)->su (fun c=>(if (qX T pl k)[c]? = some p.1 then 1 else 0)*a) (qX T pl k).length=0:=by
  intro k hk;rw[rH (g:=fun _=>0),iE];intro i hi;rw[qQ,gR];intro e;have:=vX e;simp only[qX,yJ,List.mem_filter] at this;obtain⟨q,⟨hq,_⟩,e2⟩:=this;exact hk q hq e2.symm
 induction l with
 | nil=>cases hp
 | cons q l ih =>
  have h1:=cH.1 h;rw[cO];rcases kX.1 hp with rfl|hp
  ·have h2:=none l fun q hq=>h1.1 q hq
   split
   ·rw[nD,Nat.add_comm,sS]
    simp only[su,fR,oG,oX,Nat.one_mul];rw[rH (g:=fun c=>(if (qX T pl l)[c]? = some p.1 then 1 else 0)*a),h2,eK];intro i _;rw[Nat.add_comm,bC]
   ·exact h2
  ·have h2:=ih h1.2 hp
   have hne:¬ q.1=p.1:=h1.1 p hp;split
   ·rw[nD,Nat.add_comm,sS]
    simp only[su,fR,oX];rw[qQ (by simpa using hne),gR,oX,rH (g:=fun c=>(if (qX T pl l)[c]? = some p.1 then 1 else 0)*a),h2];intro i _;rw[Nat.add_comm,bC]
   ·exact h2
theorem bhX {T:Int}(hT:0<T){l:List Pt}(h:dO l){p:Pt}(hp:p∈l)(L:Nat)(pl:Int)(I:Nat)(hI:tr T pl l=T*I) :
  ((su (fun(c:Nat)=>sm (fun bs=>if gA T l pl c bs=some p.1 then 1 else 0) L) I:Nat):Int)=2 ^ L*rm T pl p.2 / T:=by
 induction L generalizing pl I with
 | zero =>
  have:=bO hT pl p.2;simp only[sm,gA];rw[rH (g:=fun _=>0) (fun i _=>by simp),iE,Int.pow_zero,Int.one_mul,Int.ediv_eq_zero_of_lt this.1 this.2];rfl
 | succ L ih =>
  have hr:=bO hT pl p.2;have h1:=tE hT pl l;have h2:=(qW hT (2*pl % T) l).1;rw[hI] at h1
  have h3:tr T (2*pl % T) l=T*(2*(I:Int) - (qX T pl l).length):=by
   rw[h1,Int.mul_sub,<-zD,<-zD,Int.mul_comm T 2]
  rw[h3] at h2
  have h4:0<=2*(I:Int) - (qX T pl l).length:=by
   rcases Int.lt_or_le (2*(I:Int) - (qX T pl l).length) 0 with c|c
   ·have:=Int.mul_neg_of_pos_of_neg hT c
    omega
   ·exact c
  obtain⟨I',hI'⟩:=aU h4;have h5:=ih (2*pl % T) I' (by rw[h3,hI']);have h6:=bgJ T l pl (fun o=>if o=some p.1 then 1 else 0) L I I' (by omega);rw[h6,bhQ h hp,gN,h5,rE,pE hr];split
  ·rename_i c
   have e:2 ^ (L+1)*rm T pl p.2=2 ^ L*(2*rm T pl p.2 - T)+2 ^ L*T:=by
    rw[lH,zD,<-Int.mul_add];congr 1;omega
   rw[e,Int.add_mul_ediv_right _ _ (by omega),Int.add_comm];simp
  ·rw[lH,zD]
   simp
end Ds
section
open Go.RowKit Ds
theorem Dis.once {l:List Pt}(h:Dis l):dO l:=by
 unfold dO;refine List.Pairwise.imp ?_ h.rise;intro p q hh e;rw[e] at hh;exact nC _ hh
theorem Dis.tpos {l:List Pt}(h:Dis l):1<=tot l:=by
 cases l with
 | nil=>exact absurd rfl h.ne
 | cons p l =>
  have h1:=h.pos p (by simp);have h2:0<=tot l:=(Nn.of_pos (l:=l) fun q hq=>h.pos q (by simp[hq])).tot_nn;rw[jV];omega
theorem Dis.less {l:List Pt}(h:Dis l)(h2:2<=l.length):∀ p∈l,0<=p.2/\p.2<tot l:=by
 intro p hp;have h1:=h.pos p hp;refine⟨by omega,?_⟩;obtain⟨a,b,rfl⟩:=List.append_of_mem hp;have ha:0<=tot a:=(Nn.of_pos (l:=a) fun q hq=>h.pos q (by simp[hq])).tot_nn;have hb:0<=tot b:=(Nn.of_pos (l:=b) fun q hq=>h.pos q (by simp[hq])).tot_nn;rw[mI,jV];cases a with
 | cons q a =>
  have:=h.pos q (by simp);have h3:0<=tot a:=(Nn.of_pos (l:=a) fun r hr=>h.pos r (by simp[hr])).tot_nn;rw[jV];omega
 | nil=>cases b with
  | cons q b =>
   have:=h.pos q (by simp);have h3:0<=tot b:=(Nn.of_pos (l:=b) fun r hr=>h.pos r (by simp[hr])).tot_nn;rw[jV];simp;omega
  | nil=>simp at h2
theorem cX (w:World)(r:Option Nat):w.grownBy w r:=rN w r
theorem xY {a b c:World}{r:Option Nat}(h:a.grownBy b r)(k:b.grownBy c r):a.grownBy c r :=
 ⟨k.os.trans h.os,k.tape.trans h.tape,k.output.trans h.output,aQ h.size k.size,fun i hi hr=>(k.block i (zX hi h.size) hr).trans (h.block i hi hr)⟩
theorem eU {a b:World}{r:Option Nat}(h:a.grownBy b r)(o:Obj):a.grownBy (b.alloc o) r:=xY h (World.grownBy_alloc b o r)
theorem xJ {a b:World}{r:Option Nat}(h:a.grownBy b r):a.grownBy b.drew r:=⟨h.os,h.tape,h.output,h.size,h.block⟩
theorem sQ {a b:World}{E:Nat}(h:a.grownBy b (some E)){p:Addr}(hp:p.block=E)(u:Value):a.grownBy (b.setCell p u) (some E) :=
 xY h ⟨rfl,rfl,rfl,by simp[World.setCell],fun k _ hr=>lL _ _ _ _ (by rw[hp];intro e;exact hr (by rw[e]))⟩
theorem sH {a b:World}{E:Nat}(h:a.grownBy b (some E))(k:Nat)(u:Value):a.grownBy (b.setCell ⟨E,k,none⟩ u) (some E):=sQ h rfl u
theorem tH {a b:World}{r:Option Nat}(h:a.grownBy b r){p:Addr}(hp:a.heap.size<=p.block)(u:Value):a.grownBy (b.setCell p u) r :=
 ⟨h.os,h.tape,h.output,by simp[World.setCell];exact h.size,fun k hk hr=>(lL _ _ _ _ (by omega)).trans (h.block k hk hr)⟩
theorem yD {a b:World}{E:Nat}(h:Below a.heap.size a b):a.grownBy b (some E):=⟨h.os,h.tape,h.output,h.size,fun k hk _=>h.block k hk⟩
theorem cG {a b:World}{E B:Nat}(h:a.grownBy b (some E))(hB:B<=E)(hE:B<=a.heap.size):Below B a b:=⟨h.os,h.tape,h.output,h.size,fun k hk=>h.block k (by omega) (by simp;omega)⟩
theorem nc {w:World}{N:Nat}(cs:Array Value)(t:TypeId)(k:Nat)(x:Value)(hN:N=w.heap.size)(hx:cs[k]? = some x):(w.alloc (.cells cs t)).cell? ⟨N,k,none⟩=some x:=by
 rw[dN _ _ _ _ hN];exact hx
theorem nf {w:World}{N:Nat}(cs:Array Value)(t:TypeId)(k:Nat)(hN:N=w.heap.size):(w.alloc (.cells cs t)).frozen? ⟨N,k,none⟩=false:=iR _ _ _ _ hN
structure Rv (w:World) (R:Nat) (s:Value) (k:Int):Prop where
 c0:w.cell? ⟨R,0,none⟩=some s
 c1:w.cell? ⟨R,1,none⟩=some (.int .i64 k)
 f0:w.frozen? ⟨R,0,none⟩=false
 f1:w.frozen? ⟨R,1,none⟩=false
 lt:R<w.heap.size
theorem Rv.below {w w':World}{R:Nat}{s:Value}{k:Int}(h:Rv w R s k)(b:Below w.heap.size w w'):Rv w' R s k :=
 ⟨(b.cell (p:=⟨R,0,none⟩) h.lt).trans h.c0,(b.cell (p:=⟨R,1,none⟩) h.lt).trans h.c1,(b.frozen (p:=⟨R,0,none⟩) h.lt).trans h.f0,(b.frozen (p:=⟨R,1,none⟩) h.lt).trans h.f1,zX h.lt b.size⟩
theorem Rv.alloc {w:World}{R:Nat}{s:Value}{k:Int}(h:Rv w R s k)(o:Obj):Rv (w.alloc o) R s k:=h.below ((uQ _ w).alloc (jQ _) o)
theorem Rv.drew {w:World}{R:Nat}{s:Value}{k:Int}(h:Rv w R s k):Rv w.drew R s k:=⟨h.c0,h.c1,h.f0,h.f1,h.lt⟩
theorem Rv.new (w:World)(s:Value)(k:Int)(t:TypeId)(N:Nat)(hN:N=w.heap.size):Rv (w.alloc (.cells #[s,.int .i64 k] t)) N s k :=
 ⟨nc _ _ 0 _ hN rfl,nc _ _ 1 _ hN rfl,nf _ _ 0 hN,nf _ _ 1 hN,by simp;omega⟩
theorem xQ.setm {w:World}{B N:Nat}{v:Value}{xs:List Int}(h:∀ m,m<N->xQ w B m v xs)(b k:Nat)(hp:b<N)(u:Value):∀ m,m<N->xQ (w.setCell ⟨b,k,none⟩ u) B m v xs:=by
 intro m hm;have h0:=h b hp;obtain⟨a,c,hv,hc,hl,hx⟩:=h m hm;refine⟨a,c,hv,hc,hl,fun hne=>?_⟩;obtain⟨b1,o1,ha,hb,hn,hcell⟩:=hx hne;refine⟨b1,o1,ha,hb,hn,fun i x hi=>?_⟩;rw[rQ]
 ·exact hcell i x hi
 ·obtain⟨a2,c2,hv2,_,_,hx2⟩:=h0
  obtain⟨b2,o2,ha2,_,hn2,_⟩:=hx2 hne;rw[hv,ha,ha2] at hv2;simp only[eJ,sX,sD] at hv2;intro e;simp only[sD] at e;omega
