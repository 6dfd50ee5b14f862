import Derived.Test.YtdceajgpolckiaaGreatDoorQq05
import Derived.BigRegion
open Go.Proofs.Tryz
set_option linter.unusedSimpArgs false
set_option maxHeartbeats 16000000
set_option maxRecDepth 100000
namespace Go.Proofs.YtdceajgpolckiaaGreatDoor
section
open Go.RowKit Ds
def cJ (w:World) (lo:Nat) (v:Value) (ts:List Tr):Prop:=(v=.slice none 0 0/\ts=[])\/Own w lo v ts
theorem cJ.parts {w:World}{lo:Nat}{v:Value}{ts:List Tr}(h:cJ w lo v ts):xX w w.heap.size v ts:=by
 rcases h with⟨rfl,rfl⟩|h
 ·exact lH _ _
 ·exact h.parts
theorem cJ.keep {w w':World}{lo:Nat}{v:Value}{ts:List Tr}(h:cJ w lo v ts)(hb:Below w.heap.size w w'):cJ w' lo v ts:=by
 rcases h with h|h
 ·exact .inl h
 ·exact .inr (h.keep hb)
theorem cJ.mono {w:World}{lo lo':Nat}{v:Value}{ts:List Tr}(h:cJ w lo v ts)(hl:lo'<=lo):cJ w lo' v ts:=by
 rcases h with h|h
 ·exact .inl h
 ·exact .inr (h.mono hl)
theorem cJ.slice {w:World}{lo:Nat}{v:Value}{ts:List Tr}(h:cJ w lo v ts):∃ a c,v=.slice a ts.length c:=by
 rcases h with⟨rfl,rfl⟩|⟨b,o,c,h,_⟩
 ·exact⟨_,_,rfl⟩
 ·exact⟨_,_,h⟩
theorem bfJ (g:Nat)(l:List Pt)(p:Pt):eG g (l++[p])=Nat.gcd (eG g l) p.2.natAbs:=by
 induction l generalizing g with
 | nil=>rfl
 | cons q l ih=>simp only[fH,eG,ih]
theorem bgQ {l:List Pt}{i:Nat}{p:Pt}(h:l[i]? = some p):eG 0 (l.take (i+1))=Nat.gcd (eG 0 (l.take i)) p.2.natAbs:=by
 rw[kZ,h];exact bfJ _ _ _
theorem bgX {l:List Pt}{M:Nat}(h:∀ p∈l,p.2.natAbs<=M)(hp:lJ l):eG 0 l<=M:=by
 rw[dE,Nat.gcd_zero_left];cases l with
 | nil=>simp[dv]
 | cons p l =>
  have h1:=h p (by simp);have h2:=hp p (by simp);exact uQ (Nat.le_of_dvd (by omega) (eE (l:=p::l) (by simp))) h1
def vV (g:Int) (ts:List Tr) (i:Nat):List Tr:=(ts.take i).map (fun t=>(t.1,t.2.1,t.2.2 / g))++ts.drop i
theorem qP (g:Int)(ts:List Tr)(i:Nat):(vV g ts i).length=ts.length:=by simp[vV];omega
theorem bgZ (g:Int){ts:List Tr}{i:Nat}(h:i<ts.length):(vV g ts i)[i]? = ts[i]?:=by
 have e:((ts.take i).map (fun t:Tr=>(t.1,t.2.1,t.2.2 / g))).length=i:=by simp;omega
 rw[vV,dH (by omega),e];simp
theorem bgJ (g:Int){ts:List Tr}{i:Nat}{t:Tr}(h:ts[i]? = some t):(vV g ts i).set i (t.1,t.2.1,t.2.2 / g)=vV g ts (i+1):=by
 have hi:=(lQ.1 h).1;have e:((ts.take i).map (fun t:Tr=>(t.1,t.2.1,t.2.2 / g))).length=i:=by simp;omega
 have e2:ts.drop i=t::ts.drop (i+1):=by rw[zU hi,(lQ.1 h).2]
 rw[vV,vV,iO _ _ (by omega),e,e2,kZ,h];simp
theorem bhQ (g:Int)(ts:List Tr):rd (vV g ts ts.length)=cut g (rd ts):=by simp[vV,rd,cut]
theorem bhX (g:Int)(ts:List Tr):vV g ts 0=ts:=by simp[vV]
theorem tE {g:Int}{ts:List Tr}{i:Nat}{t:Tr}(h:t∈vV g ts i):∃ u∈ts,t.1=u.1/\t.2.1=u.2.1:=by
 rcases zY.1 h with h|h
 ·obtain⟨u,hu,rfl⟩:=tZ.1 h;exact⟨u,lF hu,rfl,rfl⟩
 ·exact⟨t,tC h,rfl,rfl⟩
theorem lJ.take {l:List Pt}(h:lJ l)(i:Nat):lJ (l.take i):=fun p hp=>h p (lF hp)
theorem bhZ (lo:Nat)(v:Value)(ts:List Tr)(w:World)(ho:Own w lo v ts)(hp:lJ (rd ts))(hM:tot (rd ts)<=4611686018427387904)(l:List Pt)(er:Int)(hr:jA (rd ts)=(l,er)) :
  Calls prog 114 #[v] w fun e w'=>∃ v' us,e=.returned (.tuple #[v',.int .i64 er])/\rd us=l/\cJ w' lo v' us/\Below lo w w'/\∀ t∈us,∃ u∈ts,t.1=u.1/\t.2.1=u.2.1:=by
 obtain⟨b,o,c,rfl,hc,hl,hlo,hrow,hI⟩:=ho;have HH:Hid (Row w b o ts/\(∀ t∈ts,zQ w w.heap.size b t.1 t.2.1)/\lJ (rd ts)/\tot (rd ts)<=4611686018427387904/\jA (rd ts)=(l,er)):=⟨hrow,hI,hp,hM,hr⟩;have hbs:=hrow.lt;clear hrow hI hp hM hr;by_cases h0:ts=[]
 ·subst h0
  have h1:=HH.out.2.2.2.2;obtain⟨rfl,rfl⟩:l=[]/\er=6:=by simp[jA,rd] at h1;exact⟨h1.1,h1.2.symm⟩
  clear h1 HH;go_enter func114,ntmps114;go_wp2;exact yQ (v:=.tuple #[.slice none 0 0,.int .i64 6]) (by simp[results,results114,go_sem]) rfl ⟨_,[],rfl,rfl,.inl ⟨rfl,rfl⟩,aQ _ _,fun t ht=>by cases ht⟩
 have hpos:0<ts.length:=by cases ts with|nil=>exact absurd rfl h0|cons _ _=>simp
 have hz0:((ts.length:Int) == 0)=false:=by simp;exact h0
 clear h0;go_enter func114,ntmps114;go_wp2
 go_loopw [4,13] (fun s u wr=>∃ (i g:Nat),s=.int .i64 (g:Int)/\u=.int .i64 (i:Int)/\i<=ts.length/\eG 0 ((rd ts).take i)=g/\Below w.heap.size w wr) (fun _ u _=>ts.length - (intOf u).toNat)
 case atStart=>exact⟨0,0,rfl,rfl,nQ _,by simp[eG],aQ _ _⟩
 case round =>
  obtain⟨i,g,rfl,rfl,hit,hg,hbl⟩:=hrel;have HG:Hid (eG 0 ((rd ts).take i)=g):=hg
  have hgb:g<=4611686018427387904:=by
   rw[<-hg];refine bgX (fun p hp=>?_) (lJ.take HH.out.2.2.1 i);have h1:=lJ.le_tot (Nn.of_pos HH.out.2.2.1) (lF hp);have h2:=HH.out.2.2.1 p (lF hp);have h3:=HH.out.2.2.2.1;omega
  clear hg;by_cases h1:i<ts.length
  ·obtain⟨⟨s,xs,k⟩,hs⟩:=wX h1
   obtain⟨sa,sc,he,_⟩:=HH.out.2.1 _ (uX hs);simp only at he;subst he;obtain⟨c1,c2⟩:=HH.out.1.cells.get hbl hbs hs;simp only at c1 c2;have HZ:Hid ((rd ts)[i]? = some (xs,k)):=aU hs;have hk0:0<k:=HH.out.2.2.1 (xs,k) (uX HZ.out)
   have hk1:k<=4611686018427387904:=by
    have h1:=lJ.le_tot (Nn.of_pos HH.out.2.2.1) (uX HZ.out);have h3:=HH.out.2.2.2.1;simp only at h1;omega
   obtain⟨m,rfl⟩:=jG (zN hk0);have kc:=fun W=>dK g m (by omega) (by omega) W;have HN:Hid (eG 0 ((rd ts).take (i+1))=Nat.gcd g m):=by rw[Hid,bgQ HZ.out,HG.out];rfl
   clear hs;go_wp2_with (go_at_call 59;refine(kc _).mono ?_;rintro e w1 ⟨rfl,hb1⟩)
   go_roundw
   case rel=>exact⟨i+1,Nat.gcd g m,rfl,by go_num,h1,HN.out,bt (bal hbl _) hb1⟩
   case measure=>simp[intOf];omega
  ·have hgd:g=dv (rd ts):=by rw[<-HG.out,cI (by omega),dE,Nat.gcd_zero_left]
   have HD:Hid (g=dv (rd ts)):=hgd;have hg0:0<g:=by rw[hgd];exact xS HH.out.2.2.1 (by intro h;rw[<-fG,h] at hpos;simp at hpos)
   have HR:Hid (Row wr b o ts):=HH.out.1.keep hbl;have HI:Hid (∀ t∈ts,zQ wr wr.heap.size b t.1 t.2.1):=fun t ht=>(HH.out.2.1 t ht).at2 hbl;clear hgd HG;go_wp2
   go_loopw [24] (fun u wq=>∃ j:Nat,u=.int .i64 (j:Int)/\j<=ts.length/\Row wq b o (vV g ts j)/\(∀ t∈ts,zQ wq wq.heap.size b t.1 t.2.1)/\Below lo w wq) (fun u _=>ts.length - (intOf u).toNat)
   case atStart=>exact⟨0,rfl,nQ _,by rw[bhX];exact HR.out,HI.out,hbl.mono (by omega)⟩
   case round =>
    obtain⟨j,rfl,hjt,hrow,hints,hbq⟩:=hrel;have HR2:Hid (Row wr b o (vV g ts j)):=hrow;have HI2:Hid (∀ t∈ts,zQ wr wr.heap.size b t.1 t.2.1):=hints;clear hrow hints;by_cases h2:j<ts.length
    ·obtain⟨⟨s,xs,k⟩,hs⟩:=wX h2
     have hs2:(vV g ts j)[j]? = some (s,xs,k):=by rw[bgZ _ h2];exact hs
     obtain⟨c1,c2⟩:=HR2.out.cells j _ hs2;have c3:=HR2.out.thaw (j*2+1) (by rw[qP];omega);rw[<-aG] at c3;simp only at c1 c2;have hk0:0<k:=HH.out.2.2.1 (xs,k) (uX (aU hs))
     have hk1:k<=4611686018427387904:=by
      have h1:=lJ.le_tot (Nn.of_pos HH.out.2.2.1) (uX (aU hs));have h3:=HH.out.2.2.2.1;simp only at h1;omega
     obtain⟨m,rfl⟩:=jG (zN hk0);have hdv:((m:Int) / (g:Int))<=4611686018427387904:=zL (uO _ (by omega)) hk1;have hdv0:0<=((m:Int) / (g:Int)):=yO (by omega) (by omega);have hgz:((g:Int) == 0)=false:=by simp;omega
     have HS:Hid (ts[j]? = some (s,xs,(m:Int))):=hs
     have HR3:Hid (Row (wr.setCell ⟨b,o+j*2+1,none⟩ (.int .i64 ((m:Int) / (g:Int)))) b o (vV g ts (j+1))):=by
      have:=HR2.out.setW hs2 ((m:Int) / (g:Int));rwa [show(vV g ts j).set j (s,xs,(m:Int) / (g:Int))=vV g ts (j+1) from bgJ g hs] at this
     clear hs hs2;go_wp2
     go_roundw
     case rel=>exact⟨j+1,by go_num,h2,HR3.out,fun t ht=>by simpa using (HI2.out t ht).set rfl _,hbq.setCell (by simp;omega) _⟩
     case measure=>simp[intOf];omega
    ·have hj:j=ts.length:=by omega
     subst hj;have hcut:rd (vV g ts ts.length)=cut (dv (rd ts)) (rd ts):=by rw[bhQ,HD.out]
     have hI3:∀ t∈vV g ts ts.length,zQ wr wr.heap.size b t.1 t.2.1:=by
      intro t ht;obtain⟨u,hu,e1,e2⟩:=tE ht;rw[e1,e2];exact HI2.out u hu
     have hown:Own wr lo (.slice (some ⟨b,o,none⟩) ts.length c) (vV g ts ts.length):=⟨b,o,c,by rw[qP],by rw[qP];exact hc,by rw[qP];exact hl,hlo,HR2.out,hI3⟩;have HO:Hid (Own wr lo (.slice (some ⟨b,o,none⟩) ts.length c) (vV g ts ts.length)):=hown
     have hnn:Nn (rd (vV g ts ts.length)):=by
      rw[hcut];intro p hp;obtain⟨q,hq,rfl⟩:=tZ.1 hp;exact yO (zN (HH.out.2.2.1 q hq)) (by omega)
     obtain⟨T,hT⟩:∃ T,tot (cut (dv (rd ts)) (rd ts))=T:=⟨_,rfl⟩
     have hTle:T<=4611686018427387904:=by
      rw[<-hT,baJ fun p hp=>vS hp];exact zL (uO _ (Nn.of_pos HH.out.2.2.1).tot_nn) HH.out.2.2.2.1
     have kc:=nS wr.heap.size (.slice (some ⟨b,o,none⟩) ts.length c) (vV g ts ts.length) wr (vQ _) hown.parts hnn (by rw[hcut,hT];exact hTle) T (by rw[hcut,hT]);have hlow:=HH.out.2.2.2.2;have hne:rd ts≠[]:=by intro h;rw[<-fG,h] at hpos;simp at hpos
     rw[jA,qQ hne,hT,fG] at hlow;have HL:Hid ((if 1073741824<T\/4096<ts.length then ([],4) else (cut (dv (rd ts)) (rd ts),(0:Int)))=(l,er)):=hlow;have HCU:Hid (rd (vV g ts ts.length)=cut (dv (rd ts)) (rd ts)):=hcut;clear hlow hcut hI3 hown hnn hne hT HR2 HI2;by_cases hm:1073741824<T
     ·have hl2:=HL.out
      rw[xQ (.inl hm)] at hl2;simp only[cQ] at hl2;obtain⟨rfl,rfl⟩:=hl2;go_wp2_with (go_at_call 38;refine kc.mono ?_;rintro e w1 ⟨rfl,hb1⟩);exact yQ (v:=.tuple #[.slice none 0 0,.int .i64 4]) (by simp[results,results114,go_sem]) rfl ⟨_,[],rfl,rfl,.inl ⟨rfl,rfl⟩,hbq.trans (hb1.mono (by have:=hbq.size;omega)),fun t ht=>by cases ht⟩
     ·by_cases hm2:4096<ts.length
      ·have hl2:=HL.out
       rw[xQ (.inr hm2)] at hl2;simp only[cQ] at hl2;obtain⟨rfl,rfl⟩:=hl2;go_wp2_with (go_at_call 38;refine kc.mono ?_;rintro e w1 ⟨rfl,hb1⟩);exact yQ (v:=.tuple #[.slice none 0 0,.int .i64 4]) (by simp[results,results114,go_sem]) rfl ⟨_,[],rfl,rfl,.inl ⟨rfl,rfl⟩,hbq.trans (hb1.mono (by have:=hbq.size;omega)),fun t ht=>by cases ht⟩
      ·have hl2:=HL.out
       rw[qQ (by intro h;rcases h with h|h <;> omega)] at hl2;simp only[cQ] at hl2;obtain⟨hl2,rfl⟩:=hl2;have HL2:Hid (cut (dv (rd ts)) (rd ts)=l):=hl2;clear hl2;go_wp2_with (go_at_call 38;refine kc.mono ?_;rintro e w1 ⟨rfl,hb1⟩);exact yQ (v:=.tuple #[.slice (some ⟨b,o,none⟩) ts.length c,.int .i64 0]) (by simp[results,results114,go_sem]) rfl ⟨_,vV g ts ts.length,rfl,HCU.out.trans HL2.out,.inr (HO.out.keep hb1),hbq.trans (hb1.mono (by have:=hbq.size;omega)),fun t ht=>tE ht⟩
theorem xP {l:List Pt}(h:l.all tV=true):Nn l/\∀ p∈l,p.2<=1073741824:=by
 have h1:∀ p∈l,0<=p.2/\p.2<=1073741824:=by
  intro p hp;have:=fO.1 h p hp;simp[tV] at this;exact this.1
 exact⟨fun p hp=>(h1 p hp).1,fun p hp=>(h1 p hp).2⟩
theorem bhJ {l:List Pt}(h:l.all tV=true)(hl:l.length<=1073741824):tot l<=4611686018427387904:=by
 have h1:=baX (xP h).2;have h2:(l.length:Int)*1073741824<=1073741824*1073741824:=iR (by omega) (by omega);omega
theorem vT (B:Nat)(v:Value)(ts:List Tr)(w:World)(hB:B<=w.heap.size)(hp:xX w B v ts)(l:List Pt)(er:Int)(hr:gV (rd ts)=(l,er)) :
  Calls prog 71 #[v] w fun e w'=>∃ v' us,e=.returned (.tuple #[v',.int .i64 er])/\rd us=l/\cJ w' w.heap.size v' us/\Below w.heap.size w w'/\nX w.heap.size us:=by
 have HP:Hid (xX w B v ts):=hp;obtain⟨a,c,rfl,hc,hl,_⟩:=hp;cases hok:(rd ts).all tV with
 | false =>
  rw[gV,hok] at hr;simp only[Bool.false_eq_true,jL,cQ] at hr;obtain⟨rfl,rfl⟩:=hr;have kc:=oE B _ ts w hB HP.out _ hok;clear hok;go_enter func71,ntmps71;go_wp2_with (go_at_call 120;refine kc.mono ?_;rintro e w1 ⟨rfl,hb1⟩);exact yQ (v:=.tuple #[.slice none 0 0,.int .i64 3]) (by simp[results,results71,go_sem]) rfl ⟨_,[],rfl,rfl,.inl ⟨rfl,rfl⟩,hb1,nX.nil _⟩
 | true =>
  rw[gV,hok] at hr;simp only[zD] at hr;have kc:=oE B _ ts w hB HP.out _ hok;have hM:=bhJ hok (by rw[fG];exact hl);have HK:Hid (jA (gath (rd ts))=(l,er)/\Nn (rd ts)/\tot (rd ts)<=4611686018427387904):=⟨hr,(xP hok).1,hM⟩;clear hok hr hM;go_enter func71,ntmps71;go_wp2_with (go_at_call 120;refine kc.mono ?_;rintro e w1 ⟨rfl,hb1⟩);refine(bfZ B _ ts w1 (uQ hB hb1.size) (HP.out.at hB hb1) HK.out.2.1 HK.out.2.2 _ rfl).mono ?_;rintro e w2 ⟨v2,us,rfl,ho2,hrd,hb2,hfr2⟩;have hbb:Below w.heap.size w w2:=bt hb1 hb2;have HFR2:Hid (nX w.heap.size us):=hfr2.mono hb1.size;have kl:=bhZ w.heap.size v2 us w2 (ho2.mono hb1.size) (by rw[hrd];exact tO HK.out.2.1) (by rw[hrd,jS];exact HK.out.2.2) l er (by rw[hrd];exact HK.out.1);obtain⟨b',o',c',rfl,_⟩:=ho2;clear kc hb2 hfr2;go_wp2_with fail;refine kl.mono ?_;rintro e w3 ⟨v3,us3,rfl,hrd3,ho3,hb3,hsub⟩;obtain⟨a3,c3,rfl⟩:=ho3.slice;have HO3:Hid (cJ w3 w.heap.size (.slice a3 us3.length c3) us3):=ho3;have HR3:Hid (rd us3=l):=hrd3;have HFR:Hid (nX w.heap.size us3):=HFR2.out.of hsub;clear ho3 hrd3 hrd kl hsub;go_wp2;exact yQ (v:=.tuple #[.slice a3 us3.length c3,.int .i64 er]) (by simp[results,results71,go_sem]) rfl ⟨_,us3,rfl,HR3.out,HO3.out,hbb.trans hb3,HFR.out⟩
theorem biQ {α:Type}{l k:List α}{i:Nat}{x:α}(h:l.take i=k.take i)(hl:l[i]? = some x)(hk:k[i]? = some x):l.take (i+1)=k.take (i+1):=by
 rw[kZ,kZ,h,hl,hk]
theorem qW (B:Nat)(u v:Value)(ts us:List Tr)(w:World)(hB:B<=w.heap.size)(hp:xX w B u ts)(hq:xX w B v us)(r:Bool)(hr:decide (rd ts=rd us)=r) :
  Calls prog 72 #[u,v,.func (.func 73) #[] #[]] w fun e w'=>e=.returned (.bool r)/\Below w.heap.size w w':=by
 have HP:Hid (xX w B u ts):=hp;have HQ:Hid (xX w B v us):=hq;have HR:Hid (decide (rd ts=rd us)=r):=hr;obtain⟨a,c,rfl,hc,hl,_⟩:=hp;obtain⟨a2,c2,rfl,hc2,hl2,_⟩:=hq;clear hr;by_cases hlen:ts.length=us.length
 ·have hle:(((ts.length:Int)) == (us.length:Int))=true:=by simp[hlen]
  have hle2:(((ts.length:Int)) != (us.length:Int))=false:=by simp[hlen]
  have HLN:Hid (ts.length=us.length):=hlen;clear hlen;go_enter func72,ntmps72;go_wp2
  go_loopw [17] (fun s wr=>∃ i:Nat,s=.int .i64 (i:Int)/\i<=ts.length/\(rd ts).take i=(rd us).take i/\Below w.heap.size w wr) (fun s _=>ts.length - (intOf s).toNat)
  case atStart=>exact⟨0,rfl,nQ _,by simp,aQ _ _⟩
  case round =>
   obtain⟨i,rfl,hit,htk,hbl⟩:=hrel;have HT:Hid ((rd ts).take i=(rd us).take i):=htk;clear htk;by_cases h1:i<ts.length
   ·obtain⟨b,o,sa,sc,xs,k,rfl,hb,hs,c1,c2',hI⟩:=HP.out.get hB hbl h1
    obtain⟨b2,o2,sa2,sc2,xs2,k2,rfl,hb2,hs2,d1,d2,hI2⟩:=HQ.out.get hB hbl (i:=i) (by have:=HLN.out;omega);have HS:Hid ((rd ts)[i]? = some (xs,k)):=aU hs;have HS2:Hid ((rd us)[i]? = some (xs2,k2)):=aU hs2;have HI:Hid (zQ wr B B (.slice sa xs.length sc) xs):=hI;have HI2:Hid (zQ wr B B (.slice sa2 xs2.length sc2) xs2):=hI2;have hs1:=hbl.size;have z1:(i:Int)<(us.length:Int):=by have:=HLN.out;omega
    have n1:b<wr.heap.size:=by omega
    have n2:b2<wr.heap.size:=by omega
    clear hs hs2 hI hI2;by_cases he:k=k2/\xs=xs2
    ·have hd:Hid (decide (k=k2/\xs=xs2)=true):=vG he
     have HE:Hid ((xs2,k2)=(xs,k)):=by rw[Hid,he.1,he.2]
     clear he;go_wp2_with (go_at_call 73;refine(kE B B B _ _ _ _ xs xs2 _ ?_ ?_ ?_ _ hd.out).mono ?_;(simp;omega);(exact HI.out.at (by omega) (bal (ba _ _) _));(exact HI2.out.at (by omega) (bal (ba _ _) _));rintro e w1 ⟨rfl,hb1⟩)
     go_roundw
     case rel=>exact⟨i+1,by go_num,h1,biQ HT.out HS.out (by rw[HS2.out,HE.out]),bt (bal (bal hbl _) _) hb1⟩
     case measure=>simp[intOf];omega
    ·have hd:Hid (decide (k=k2/\xs=xs2)=false):=nV he
     have hr1:r=false:=by
      rw[<-HR.out];refine nV fun h=>he ?_;have h2:=HS.out;rw[h,HS2.out] at h2;simp only[vX,cQ] at h2;exact⟨h2.2.symm,h2.1.symm⟩
     subst hr1;clear he;go_wp2_with (go_at_call 73;refine(kE B B B _ _ _ _ xs xs2 _ ?_ ?_ ?_ _ hd.out).mono ?_;(simp;omega);(exact HI.out.at (by omega) (bal (ba _ _) _));(exact HI2.out.at (by omega) (bal (ba _ _) _));rintro e w1 ⟨rfl,hb1⟩);go_ret;exact⟨rfl,bt (bal (bal hbl _) _) hb1⟩
   ·have hr1:r=true:=by
     rw[<-HR.out];refine vG ?_;have:=HT.out;rwa [cI (by omega),cI (by have:=HLN.out;omega)] at this
    subst hr1;go_wp2;go_ret;exact⟨rfl,hbl⟩
 ·have hle:(((ts.length:Int)) == (us.length:Int))=false:=by simp;omega
  have hle2:(((ts.length:Int)) != (us.length:Int))=true:=by simp;omega
  have hr1:r=false:=by
   rw[<-HR.out];refine nV fun h=>hlen ?_;rw[<-fG,h,fG]
  subst hr1;go_enter func72,ntmps72;go_wp2;go_ret;exact⟨rfl,aQ _ _⟩
def bU (l:List Pt):List Pt × Int:=if (gV l).2=0 then if (gV l).1=l then (l,0) else ([],2) else ([],(gV l).2)
theorem biX (l:List Pt):(jA l).2=0\/(jA l).1=[]:=by
 unfold jA;split
 ·exact .inr rfl
 ·split
  ·exact .inr rfl
  ·exact .inl rfl
theorem biZ (l:List Pt):(gV l).2=0\/(gV l).1=[]:=by
 unfold gV;split
 ·exact biX _
 ·exact .inr rfl
theorem biJ (B:Nat)(v:Value)(ts:List Tr)(w:World)(hB:B<=w.heap.size)(hp:xX w B v ts)(l:List Pt)(er:Int)(hr:bU (rd ts)=(l,er)) :
  Calls prog 35 #[v] w fun e w'=>∃ v' us,e=.returned (.tuple #[v',.int .i64 er])/\rd us=l/\cJ w' w.heap.size v' us/\Below w.heap.size w w'/\nX w.heap.size us:=by
 have HP:Hid (xX w B v ts):=hp;obtain⟨a,c,rfl,hc,hl,_⟩:=hp;obtain⟨⟨m,e1⟩,hm⟩:∃ m,gV (rd ts)=m:=⟨_,rfl⟩;have kc:=vT B _ ts w hB HP.out m e1 hm;have hme:=biZ (rd ts);rw[bU,hm] at hr;rw[hm] at hme;simp only at hr hme;have HR:Hid ((if e1=0 then if m=rd ts then (rd ts,0) else ([],2) else ([],e1))=(l,er)/\(e1=0\/m=[])):=⟨hr,hme⟩;clear hr hme hm;go_enter func35,ntmps35;go_wp2_with fail;refine kc.mono ?_;rintro e w1 ⟨v1,us,rfl,hrd,ho,hb1,hfr⟩;have HFR:Hid (nX w.heap.size us):=hfr;clear hfr;have HO:Hid (cJ w1 w.heap.size v1 us):=ho;have HD:Hid (rd us=m):=hrd;obtain⟨a1,c1,rfl⟩:=ho.slice;clear ho hrd kc;by_cases h0:e1=0
 ·subst h0
  have hP1:xX w1 w1.heap.size (.slice a ts.length c) ts:=(HP.out.at hB hb1).mono (uQ hB hb1.size);by_cases h2:m=rd ts
  ·have h3:=HR.out.1
   rw[xQ rfl,xQ h2] at h3;simp only[cQ] at h3;obtain⟨h3,rfl⟩:=h3;have HL:Hid (rd us=l):=by rw[Hid,HD.out,h2,h3]
   have ke:=qW w1.heap.size _ _ ts us w1 (vQ _) hP1 HO.out.parts true (vG (by rw[HD.out,h2]));clear h2 h3 hP1;go_wp2_with fail;refine ke.mono ?_;rintro e w2 ⟨rfl,hb2⟩;clear ke;go_wp2;exact yQ (v:=.tuple #[.slice a1 us.length c1,.int .i64 0]) (by simp[results,results35,go_sem]) rfl ⟨_,us,rfl,HL.out,HO.out.keep hb2,bt hb1 hb2,HFR.out⟩
  ·have h3:=HR.out.1
   rw[xQ rfl,qQ h2] at h3;simp only[cQ] at h3;obtain⟨rfl,rfl⟩:=h3;have ke:=qW w1.heap.size _ _ ts us w1 (vQ _) hP1 HO.out.parts false (nV (by rw[HD.out];exact fun h=>h2 h.symm));clear h2 hP1;go_wp2_with fail;refine ke.mono ?_;rintro e w2 ⟨rfl,hb2⟩;clear ke;go_wp2;exact yQ (v:=.tuple #[.slice none 0 0,.int .i64 2]) (by simp[results,results35,go_sem]) rfl ⟨_,[],rfl,rfl,.inl ⟨rfl,rfl⟩,bt hb1 hb2,nX.nil _⟩
 ·have h3:=HR.out.1
  have h4:=HR.out.2;rw[qQ h0] at h3;simp only[cQ] at h3;obtain⟨rfl,rfl⟩:=h3
  have HL:Hid (rd us=[]):=by
   rcases h4 with h|h
   ·exact absurd h h0
   ·rw[Hid,HD.out,h]
  have h0':(e1 == 0)=false:=by simpa using h0
  clear h4;go_wp2;exact yQ (v:=.tuple #[.slice a1 us.length c1,.int .i64 e1]) (by simp[results,results35,go_sem]) rfl ⟨_,us,rfl,HL.out,HO.out,hb1,HFR.out⟩
theorem bjQ (B:Nat)(v:Value)(ts:List Tr)(w:World)(hB:B<=w.heap.size)(hp:xX w B v ts)(l:List Pt)(er:Int)(hr:bU (rd ts)=(l,er)) :
  Calls prog 35 #[v] w fun e w'=>∃ v' us,e=.returned (.tuple #[v',.int .i64 er])/\rd us=l/\cJ w' w.heap.size v' us/\Below w.heap.size w w' :=
 (biJ B v ts w hB hp l er hr).mono fun _ _ ⟨v',us,h1,h2,h3,h4,_⟩=>⟨v',us,h1,h2,h3,h4⟩
theorem bjX (w:World)(B nb:Nat)(v:Value)(xs:List Int)(k:Int)(hB:B<=w.heap.size)(h:zQ w B nb v xs) :
  xX (w.alloc (.cells #[v,.int .i64 k] 77)) (w.heap.size+1) (.slice (some ⟨w.heap.size,0,none⟩) 1 1) [(v,xs,k)]:=by
 refine⟨_,1,rfl,by simp,by simp,fun t ht=>?_,fun _=>⟨w.heap.size,0,rfl,by omega,fun i t hi=>?_⟩⟩
 ·simp at ht;subst ht
  exact(h.at hB (ba _ _)).mono (by omega) (.inr (by omega))
 ·match i,hi with
  | 0,hi =>
   simp at hi;subst hi;exact⟨by simp[go_sem],by simp[go_sem]⟩
end
section
open Go.RowKit
abbrev rv (n m:Int):Value:=.agg #[.int .i64 n,.int .i64 m]
theorem bjZ (u d n m e:Int)(hu:u<=9223372036854775807)(hd:d<=9223372036854775807)(h:Rt.wV u d=(n,m,e))(w:World) :
  Calls prog 30 #[.int .i64 u,.int .i64 d] w fun x w'=>x=.returned (.tuple #[rv n m,.int .i64 e])/\Below w.heap.size w w':=by
 have H:Hid (Rt.wV u d=(n,m,e)):=h;clear h;by_cases c1:u<0
 ·have hr:(0,0,3)=(n,m,e):=by rw[<-H.out];unfold Rt.wV;rw[xQ (.inl c1)]
  simp only[cQ] at hr;obtain⟨rfl,rfl,rfl⟩:=hr;go_enter func30,ntmps30;go_wp2;exact yQ (v:=.tuple #[rv 0 0,.int .i64 3]) (by simp[results,results30,go_sem]) rfl ⟨rfl,ba _ _⟩
 by_cases c2:d<1
 ·have hr:(0,0,3)=(n,m,e):=by rw[<-H.out];unfold Rt.wV;rw[xQ (.inr c2)]
  simp only[cQ] at hr;obtain⟨rfl,rfl,rfl⟩:=hr;go_enter func30,ntmps30;go_wp2;exact yQ (v:=.tuple #[rv 0 0,.int .i64 3]) (by simp[results,results30,go_sem]) rfl ⟨rfl,ba _ _⟩
 have hm:=Rt.aS u d n m e (by omega) (by omega) H.out;clear H;obtain⟨x,rfl⟩:=jG (show 0<=u by omega);obtain⟨y,rfl⟩:=jG (show 0<=d by omega);rw[show Int.gcd (x:Int) (y:Int)=Nat.gcd x y from rfl] at hm;have hg1:1<=Nat.gcd x y:=Nat.gcd_pos_of_pos_right _ (by omega);have hg2:Nat.gcd x y<=y:=Nat.gcd_le_right _ (by omega);have q1:0<=(x:Int) / (Nat.gcd x y:Nat):=yO (by omega) (by omega);have q2:0<=(y:Int) / (Nat.gcd x y:Nat):=yO (by omega) (by omega);have q3:(x:Int) / (Nat.gcd x y:Nat)<=9223372036854775807:=zL (uO _ (by omega)) hu;have q4:(y:Int) / (Nat.gcd x y:Nat)<=9223372036854775807:=zL (uO _ (by omega)) hd;rcases hm with⟨hc,rfl,rfl,rfl⟩|⟨hc1,hc2,rfl,rfl,rfl⟩
 ·have hc':1073741824<(x:Int) / (Nat.gcd x y:Nat)\/((x:Int) / (Nat.gcd x y:Nat)<=1073741824/\1073741824<(y:Int) / (Nat.gcd x y:Nat)):=by omega
  clear hc;rcases hc' with hc1|⟨hc1,hc2⟩
  all_goals
   go_enter func30,ntmps30;go_wp2_with (go_at_call 59;refine(dK _ _ (by omega) (by omega) _).mono ?_;rintro e w' ⟨rfl,hbl⟩);obtain⟨hcell,hfroz⟩:=bcell hbl;generalize Nat.gcd x y=g at *
   have hz:w.heap.size<w'.heap.size:=by have:=hbl.size;simp at this;omega
   go_region
   go_wp2;exact yQ (v:=.tuple #[rv 0 0,.int .i64 4]) (by simp[results,results30,go_sem,hcell,hz]) rfl ⟨rfl,(bal (bs (bs (bt (ba _ _) hbl) (vQ _) _) (vQ _) _) _).drew⟩
 ·go_enter func30,ntmps30
  go_wp2_with (go_at_call 59;refine(dK _ _ (by omega) (by omega) _).mono ?_;rintro e w' ⟨rfl,hbl⟩);obtain⟨hcell,hfroz⟩:=bcell hbl;have hz:w.heap.size<w'.heap.size:=by have:=hbl.size;simp at this;omega
  go_region
  go_wp2;exact yQ (v:=.tuple #[rv (x / (Nat.gcd x y:Nat)) (y / (Nat.gcd x y:Nat)),.int .i64 0]) (by simp[results,results30,go_sem,hcell,hz]) rfl ⟨rfl,(bal (bs (bs (bt (ba _ _) hbl) (vQ _) _) (vQ _) _) _).drew⟩
end
section
open Go.RowKit Ds
structure Dis (l:List Pt):Prop where
 rise:rY l
 pos:lJ l
 le:tot l<=1073741824
 ne:l≠[]
 ok:l.all tV=true
 few:l.length<=4096
 one:dv l=1
theorem bjJ {g:Int}{l:List Pt}(h:rY l):rY (cut g l):=by
 unfold rY cut;rw[List.pairwise_map];exact h
theorem xW (g:Nat):∀ l:List Pt,dv (l.map fun p=>(p.1,(g:Int)*p.2))=g*dv l
 | []=>by simp[dv]
 | p::l=>by
  simp only[qI,dv,xW g l];rw[Int.natAbs_mul,Int.natAbs_natCast,Nat.gcd_mul_left]
theorem zW {l:List Pt}{g:Nat}(h:∀ p∈l,(g:Int) ∣ p.2):(cut g l).map (fun p=>(p.1,(g:Int)*p.2))=l:=by
 simp only[cut,List.map_map]
 conv=>rhs;rw[<-List.map_id l]
 refine lR fun p hp=>?_;simp only[Function.comp,id];rw[Int.mul_ediv_cancel' (h p hp)]
theorem jW {l m:List Pt}(hp:lJ l)(hr:rY l)(h:jA l=(m,0)):rY m/\lJ m/\tot m<=1073741824/\m≠[]/\m.length<=4096/\dv m=1:=by
 unfold jA at h;split at h
 ·simp at h
 ·rename_i hne
  split at h
  ·simp at h
  ·rename_i hc
   simp only[cQ,and_true] at h;subst h;have hd:=xS hp hne;have hdv:∀ p∈l,((dv l:Nat):Int) ∣ p.2:=fun p hp=>vS hp;refine⟨bjJ hr,?_,by omega,?_,by rw[baQ];omega,?_⟩
   ·intro p hpm
    obtain⟨q,hq,rfl⟩:=tZ.1 hpm;have h1:=hp q hq;exact Int.ediv_pos_of_pos_of_dvd h1 (by omega) (hdv q hq)
   ·simp[cut,hne]
   ·have e:=xW (dv l) (cut (dv l) l)
    rw[zW hdv] at e;exact Nat.eq_of_mul_eq_mul_left hd (by rw[<-e,Nat.mul_one])
theorem yT {l m:List Pt}(h:bU l=(m,0)):m=l/\Dis l:=by
 unfold bU at h;split at h
 ·rename_i h0
  split at h
  ·rename_i h1
   simp only[cQ,and_true] at h;have hm:gV l=(l,0):=Prod.ext h1 h0;unfold gV at hm;split at hm
   ·rename_i hok
    obtain⟨a,b,c,d,e,f⟩:=jW (tO (xP hok).1) (qS l) hm;exact⟨h.symm,a,b,c,d,hok,e,f⟩
   ·simp at hm
  ·simp at h
 ·rename_i h0
  simp only[cQ] at h;exact absurd h.2 h0
theorem bkQ {l:List Pt}(h:rY l){i:Nat}{p:Pt}(hp:l[i]? = some p):wt l p.1=p.2:=by
 induction l generalizing i with
 | nil=>simp at hp
 | cons q l ih =>
  cases i with
  | zero=>simp at hp;subst hp;exact cK h
  | succ i =>
   simp at hp;rw[mU,ih (wR h) hp,qQ (iL ((qK.1 h).1 p (uX hp)))];omega
end
namespace Ds
abbrev Nx:=List Int->Option (List Int × Int × List Int)
def zF (nx:Nx):Nat->List Int->List Pt
 | 0,_=>[]
 | t+1,l=>match nx l with
  | none=>[]
  | some (o,u,r)=>(o,u)::zF nx t r
theorem bkX {nx:Nx}{t:Nat}{l:List Int}(h:nx l=none):zF nx t l=[]:=by
 cases t with
 | zero=>rfl
 | succ t=>simp[zF,h]
theorem bkZ {nx:Nx}{t:Nat}{l r:List Int}{o:List Int}{u:Int}(h:nx l=some (o,u,r)):zF nx (t+1) l=(o,u)::zF nx t r:=by
 simp[zF,h]
def dY (l:List Int):Bool:=l.any fun b=>decide (b≠0/\b≠1)
def nA (bits:List Int) (times:Int):Int:=if 65536<bits.length then 5 else if times<0\/4096<times\/dY bits=true then 3 else 0
def rm (T pl w:Int):Int:=w*pl % T
def uZ (T pl:Int) (l:List Pt):List (List Int):=(l.filter fun p=>decide (T<=2*rm T pl p.2)).map (·.1)
def vA (T:Int) (l:List Pt):Int->Int->Int->List Int->Option (List Int × Int × List Int)
 | _,_,_,[]=>none
 | pl,node,u,b::r=>match (uZ T pl l)[(2*node+b).toNat]? with
  | some o=>some (o,u+1,r)
  | none=>vA T l (2*pl % T) (2*node+b - (uZ T pl l).length) (u+1) r
def nU (l:List Pt):Nx:=fun bits=>match l with
 | [p]=>some (p.1,0,bits)
 | l=>vA (tot l) l 1 0 0 bits
theorem vW (a b n:Int):a*(b % n) % n=a*b % n:=by rw[Int.mul_emod,Int.emod_emod,<-Int.mul_emod]
theorem yW {T:Int}(hT:0<T)(pl w:Int):0<=rm T pl w/\rm T pl w<T:=⟨Int.emod_nonneg _ (by omega),Int.emod_lt_of_pos _ hT⟩
theorem bkJ {T r:Int}(hr:0<=r/\r<T):2*r % T=if T<=2*r then 2*r - T else 2*r:=by
 by_cases h:T<=2*r
 ·rw[xQ h,show 2*r=(2*r - T)+T*1 by omega,Int.add_mul_emod_self_left,Int.emod_eq_of_lt (by omega) (by omega)]
  omega
 ·rw[qQ h,Int.emod_eq_of_lt (by omega) (by omega)]
theorem blQ (T pl w:Int):rm T (2*pl % T) w=2*rm T pl w % T:=by
 unfold rm;rw[vW,vW,<-aK,<-aK,Int.mul_comm w 2]
def tr (T pl:Int):List Pt->Int
 | []=>0
 | p::l=>rm T pl p.2+tr T pl l
theorem uT (T pl:Int)(p:Pt)(l:List Pt):uZ T pl (p::l)=if T<=2*rm T pl p.2 then p.1::uZ T pl l else uZ T pl l:=by
 unfold uZ;rw[List.filter_cons];by_cases h:T<=2*rm T pl p.2
 ·rw[xQ h,xQ (vG h)];rfl
 ·rw[qQ h,qQ (by simp;omega)]
theorem uW (T pl:Int)(l k:List Pt):uZ T pl (l++k)=uZ T pl l++uZ T pl k:=by simp[uZ]
theorem blX {T:Int}(hT:0<T)(pl:Int)(l:List Pt):tr T (2*pl % T) l=2*tr T pl l - T*(uZ T pl l).length:=by
 induction l with
 | nil=>simp[tr,uZ]
 | cons p l ih =>
  have h1:=yW hT pl p.2;simp only[tr];rw[ih,blQ,bkJ h1,uT];split
  ·have e:T*((uZ T pl l).length+1:Int)=T*(uZ T pl l).length+T:=by rw[Int.mul_add,Int.mul_one]
   simp only[iF];rw[mR,Int.natCast_one,e];omega
  ·omega
theorem blZ {T:Int}(hT:0<T)(pl:Int)(l:List Pt):0<=tr T pl l/\tr T pl l<=T*l.length:=by
 induction l with
 | nil=>simp[tr]
 | cons p l ih =>
  have h1:=yW hT pl p.2;simp only[tr,iF];rw[mR,Int.mul_add,Int.natCast_one,Int.mul_one];omega
theorem blJ {T:Int}(l:List Pt)(h:∀ p∈l,0<=p.2/\p.2<T):tr T 1 l=tot l:=by
 induction l with
 | nil=>rfl
 | cons p l ih =>
  have:=h p (by simp);rw[tr,pV,ih fun q hq=>h q (by simp[hq]),rm,Int.mul_one,Int.emod_eq_of_lt this.1 this.2]
def Nd (T pl:Int) (l:List Pt) (node:Int):Prop:=∃ I:Int,tr T pl l=T*I/\0<=node/\node<I
theorem Nd.le {T pl:Int}{l:List Pt}{node:Int}(h:Nd T pl l node)(hT:0<T):0<=node/\node<l.length:=by
 obtain⟨I,h1,h2,h3⟩:=h;have h4:=(blZ hT pl l).2;rw[h1] at h4;have:=Int.le_of_mul_le_mul_left h4 hT;omega
theorem Nd.next {T pl:Int}{l:List Pt}{node b:Int}(h:Nd T pl l node)(hT:0<T)(hb:0<=b/\b<=1)(hm:((uZ T pl l).length:Int)<=2*node+b):Nd T (2*pl % T) l (2*node+b - (uZ T pl l).length):=by
 obtain⟨I,h1,h2,h3⟩:=h;refine⟨2*I - (uZ T pl l).length,?_,by omega,by omega⟩;rw[blX hT,h1,Int.mul_sub,<-aK,<-aK,Int.mul_comm T 2]
theorem Nd.start {l:List Pt}(h:∀ p∈l,0<=p.2/\p.2<tot l):Nd (tot l) 1 l 0:=⟨1,by rw[blJ l h,Int.mul_one],by omega,by omega⟩
end Ds
section
open Go.RowKit Ds
theorem Dis.tpos {l:List Pt}(h:Dis l):1<=tot l:=by
 cases l with
 | nil=>exact absurd rfl h.ne
 | cons p l =>
  have h1:=h.pos p (by simp);have h2:0<=tot l:=(Nn.of_pos (l:=l) fun q hq=>h.pos q (by simp[hq])).tot_nn;rw[pV];omega
theorem Dis.less {l:List Pt}(h:Dis l)(h2:2<=l.length):∀ p∈l,0<=p.2/\p.2<tot l:=by
 intro p hp;have h1:=h.pos p hp;refine⟨by omega,?_⟩;obtain⟨a,b,rfl⟩:=List.append_of_mem hp;have ha:0<=tot a:=(Nn.of_pos (l:=a) fun q hq=>h.pos q (by simp[hq])).tot_nn;have hb:0<=tot b:=(Nn.of_pos (l:=b) fun q hq=>h.pos q (by simp[hq])).tot_nn;rw[bK,pV];cases a with
 | cons q a =>
  have:=h.pos q (by simp);have h3:0<=tot a:=(Nn.of_pos (l:=a) fun r hr=>h.pos r (by simp[hr])).tot_nn;rw[pV];omega
 | nil=>cases b with
  | cons q b =>
   have:=h.pos q (by simp);have h3:0<=tot b:=(Nn.of_pos (l:=b) fun r hr=>h.pos r (by simp[hr])).tot_nn;rw[pV];simp;omega
  | nil=>simp at h2
theorem dX (w:World)(r:Option Nat):w.grownBy w r:=oO w r
theorem cU {a b c:World}{r:Option Nat}(h:a.grownBy b r)(k:b.grownBy c r):a.grownBy c r :=
 ⟨k.os.trans h.os,k.tape.trans h.tape,k.output.trans h.output,uQ h.size k.size,fun i hi hr=>(k.block i (qX hi h.size) hr).trans (h.block i hi hr)⟩
theorem oA {a b:World}{r:Option Nat}(h:a.grownBy b r)(o:Obj):a.grownBy (b.alloc o) r:=cU h (World.grownBy_alloc b o r)
theorem fJ {a b:World}{r:Option Nat}(h:a.grownBy b r):a.grownBy b.drew r:=⟨h.os,h.tape,h.output,h.size,h.block⟩
theorem sQ {a b:World}{E:Nat}(h:a.grownBy b (some E)){p:Addr}(hp:p.block=E)(u:Value):a.grownBy (b.setCell p u) (some E) :=
 cU h ⟨rfl,rfl,rfl,by simp[World.setCell],fun k _ hr=>xL _ _ _ _ (by rw[hp];intro e;exact hr (by rw[e]))⟩
theorem eK {a b:World}{E:Nat}(h:a.grownBy b (some E))(k:Nat)(u:Value):a.grownBy (b.setCell ⟨E,k,none⟩ u) (some E):=sQ h rfl u
theorem eI {a b:World}{r:Option Nat}(h:a.grownBy b r){p:Addr}(hp:a.heap.size<=p.block)(u:Value):a.grownBy (b.setCell p u) r :=
 ⟨h.os,h.tape,h.output,by simp[World.setCell];exact h.size,fun k hk hr=>(xL _ _ _ _ (by omega)).trans (h.block k hk hr)⟩
theorem jF {a b:World}{E:Nat}(h:Below a.heap.size a b):a.grownBy b (some E):=⟨h.os,h.tape,h.output,h.size,fun k hk _=>h.block k hk⟩
theorem iD {a b:World}{E B:Nat}(h:a.grownBy b (some E))(hB:B<=E)(hE:B<=a.heap.size):Below B a b:=⟨h.os,h.tape,h.output,h.size,fun k hk=>h.block k (by omega) (by simp;omega)⟩
theorem nc {w:World}{N:Nat}(cs:Array Value)(t:TypeId)(k:Nat)(x:Value)(hN:N=w.heap.size)(hx:cs[k]? = some x):(w.alloc (.cells cs t)).cell? ⟨N,k,none⟩=some x:=by
 rw[yK _ _ _ _ hN];exact hx
theorem nf {w:World}{N:Nat}(cs:Array Value)(t:TypeId)(k:Nat)(hN:N=w.heap.size):(w.alloc (.cells cs t)).frozen? ⟨N,k,none⟩=false:=pR _ _ _ _ hN
structure Rv (w:World) (R:Nat) (s:Value) (k:Int):Prop where
 c0:w.cell? ⟨R,0,none⟩=some s
 c1:w.cell? ⟨R,1,none⟩=some (.int .i64 k)
 f0:w.frozen? ⟨R,0,none⟩=false
 f1:w.frozen? ⟨R,1,none⟩=false
 lt:R<w.heap.size
theorem Rv.below {w w':World}{R:Nat}{s:Value}{k:Int}(h:Rv w R s k)(b:Below w.heap.size w w'):Rv w' R s k :=
 ⟨(b.cell (p:=⟨R,0,none⟩) h.lt).trans h.c0,(b.cell (p:=⟨R,1,none⟩) h.lt).trans h.c1,(b.frozen (p:=⟨R,0,none⟩) h.lt).trans h.f0,(b.frozen (p:=⟨R,1,none⟩) h.lt).trans h.f1,qX h.lt b.size⟩
theorem Rv.alloc {w:World}{R:Nat}{s:Value}{k:Int}(h:Rv w R s k)(o:Obj):Rv (w.alloc o) R s k:=h.below ((aQ _ w).alloc (vQ _) o)
theorem Rv.drew {w:World}{R:Nat}{s:Value}{k:Int}(h:Rv w R s k):Rv w.drew R s k:=⟨h.c0,h.c1,h.f0,h.f1,h.lt⟩
theorem Rv.new (w:World)(s:Value)(k:Int)(t:TypeId)(N:Nat)(hN:N=w.heap.size):Rv (w.alloc (.cells #[s,.int .i64 k] t)) N s k :=
 ⟨nc _ _ 0 _ hN rfl,nc _ _ 1 _ hN rfl,nf _ _ 0 hN,nf _ _ 1 hN,by simp;omega⟩
theorem zQ.setm {w:World}{B N:Nat}{v:Value}{xs:List Int}(h:∀ m,m<N->zQ w B m v xs)(b k:Nat)(hp:b<N)(u:Value):∀ m,m<N->zQ (w.setCell ⟨b,k,none⟩ u) B m v xs:=by
 intro m hm;have h0:=h b hp;obtain⟨a,c,hv,hc,hl,hx⟩:=h m hm;refine⟨a,c,hv,hc,hl,fun hne=>?_⟩;obtain⟨b1,o1,ha,hb,hn,hcell⟩:=hx hne;refine⟨b1,o1,ha,hb,hn,fun i x hi=>?_⟩;rw[rQ]
 ·exact hcell i x hi
 ·obtain⟨a2,c2,hv2,_,_,hx2⟩:=h0
  obtain⟨b2,o2,ha2,_,hn2,_⟩:=hx2 hne;rw[hv,ha,ha2] at hv2;simp only[xV,vX,mF] at hv2;intro e;simp only[mF] at e;omega
abbrev nH:Value:=.agg #[.slice none 0 0,.int .i64 0]
def bmQ (E:Nat) {S:Type} (St:World->S->Prop) (go:S->Nx) (us:S->Int) (s0 s:S) (b:Int) (w:World) (e:Ending) (w':World):Prop :=
 w.grownBy w' (some E) /\
  ((e=.returned (.tuple #[nH,.bool false])/\∃ s',St w' s'/\us s' = us s+1/\∀ l,go s (b::l)=go s' l) \/
   (∃ a c o,e=.returned (.tuple #[.agg #[.slice a (o:List Int).length c,.int .i64 (us s+1)],.bool true])/\(∀ m,m<w.heap.size->zQ w' w'.heap.size m (.slice a o.length c) o)/\St w' s0/\∀ l,go s (b::l)=some (o,us s+1,l)))
def aW (sur:Option (List Int)) (w:World) (e:Ending) (w':World):Prop :=
 Below w.heap.size w w'/\(sur=none->e=.returned (.tuple #[nH,.bool false])) /\
  ∀ o,sur=some o->∃ a c,e=.returned (.tuple #[.agg #[.slice a o.length c,.int .i64 0],.bool true])/\∀ m,m<w.heap.size->zQ w' w'.heap.size m (.slice a o.length c) o
structure Drw (N E fF fS:Nat) {S:Type} (St:World->S->Prop) (go:S->Nx) (us:S->Int) (s0:S) (sur:Option (List Int)):Prop where
 keep:∀ {w w' s},St w s->Below N w w'->N<=w.heap.size->St w' s
 lt:E<N
 nil:∀ s,go s []=none
 u0:us s0=0
 feed:sur=none->∀ w s b,St w s->N<=w.heap.size->0<=b/\b<=1->0<=us s/\us s<=65536->Calls prog fF #[.pointer (some ⟨E,0,none⟩),.int .i64 b] w (bmQ E St go us s0 s b w)
 sure:∀ w s,St w s->N<=w.heap.size->Calls prog fS #[.pointer (some ⟨E,0,none⟩)] w (aW sur w)
def vF {S:Type} (go:S->Nx) (s0:S) (sur:Option (List Int)):Nx:=fun l=>match sur with
 | some o=>some (o,0,l)
 | none=>go s0 l
theorem zQ.drop {w:World}{B nb:Nat}{a:Option Addr}{c:Nat}{xs:List Int}(h:zQ w B nb (.slice a xs.length c) xs)(i:Nat) :
  ∀ b o,a=some ⟨b,o,none⟩->zQ w B nb (.slice (some ⟨b,o+i,none⟩) (xs.length - i) (c - i)) (xs.drop i):=by
 intro b o ha;obtain⟨a',c',hv,hc,hl,hx⟩:=h;simp only[xV] at hv;obtain⟨rfl,_,rfl⟩:=hv;refine⟨some ⟨b,o+i,none⟩,c - i,by simp,by simp;omega,by simp;omega,fun hne=>?_⟩;have hne':xs≠[]:=by rintro rfl;simp at hne
 obtain⟨b',o',ha',hb,hn,hcell⟩:=hx hne';rw[ha] at ha';simp only[vX,mF] at ha';obtain⟨rfl,rfl,_⟩:=ha';refine⟨b,o+i,rfl,hb,hn,fun j x hj=>?_⟩;rw[kF] at hj;have:=hcell (i+j) x hj;rwa [<-aG] at this
theorem zQ.drop2 {w:World}{B nb b o c:Nat}{xs:List Int}(h:zQ w B nb (.slice (some ⟨b,o,none⟩) xs.length c) xs)(i:Nat)(hi:i<=xs.length) :
  zQ w B nb (.slice (if c=i then some ⟨b,o,none⟩ else some ⟨b,o+i,none⟩) (xs.drop i).length (c - i)) (xs.drop i):=by
 by_cases e:c=i
 ·have hc:xs.length<=c:=by
   obtain⟨a',c',hv,hc,_⟩:=h;simp only[xV] at hv;omega
  rw[xQ e,qD (by omega)];exact⟨_,_,rfl,by simp,by simp,fun h=>absurd rfl h⟩
 ·rw[qQ e,vL]
  exact h.drop i b o rfl
theorem zQ.gb {w w':World}{B E:Nat}{v:Value}{xs:List Int}(h:zQ w B E v xs)(hg:w.grownBy w' (some E)):zQ w' B E v xs:=by
 obtain⟨a,c,hv,hc,hl,hx⟩:=h;refine⟨a,c,hv,hc,hl,fun hne=>?_⟩;obtain⟨b,o,ha,hb,hn,hcell⟩:=hx hne;exact⟨b,o,ha,hb,hn,fun i x hi=>hg.cell (hcell i x hi) (by simpa using hn)⟩
theorem bW {l:List Int}(h:dY l=false){i:Nat}{b:Int}(hb:l[i]? = some b):0<=b/\b<=1:=by
 have:=(List.any_eq_false.1 h) b (uX hb);simp at this;omega
theorem cW {l:List Int}(h:dY l=false)(i:Nat):dY (l.drop i)=false :=
 List.any_eq_false.2 fun b hb=>(List.any_eq_false.1 h) b (tC hb)
theorem Rv.gb {w w':World}{R E:Nat}{s:Value}{k:Int}(h:Rv w R s k)(hg:w.grownBy w' (some E))(hne:R≠E):Rv w' R s k :=
 have hn:some R≠some E:=by simpa using hne
 ⟨hg.cell (a:=⟨R,0,none⟩) h.c0 hn,hg.cell (a:=⟨R,1,none⟩) h.c1 hn,(zV (w:=w) (a:=⟨R,0,none⟩) (hg.block R h.lt hn)).trans h.f0,(zV (w:=w) (a:=⟨R,1,none⟩) (hg.block R h.lt hn)).trans h.f1,qX h.lt hg.size⟩
theorem Rv.put {w:World}{R:Nat}{s:Value}{k:Int}(h:Rv w R s k)(s':Value)(k':Int):Rv ((w.setCell ⟨R,0,none⟩ s').setCell ⟨R,1,none⟩ (.int .i64 k')) R s' k' :=
 ⟨by rw[rQ (by simp)];exact jY h.c0,by refine jY (u:=.int .i64 k) ?_;rw[rQ (by simp)];exact h.c1,by rw[iZ,iZ];exact h.f0,by rw[iZ,iZ];exact h.f1,by simpa using h.lt⟩
def bmX (B E:Nat) {S:Type} (St:World->S->Prop) (nx:Nx) (s0:S) (bits:List Int) (w:World) (e:Ending) (w':World):Prop :=
 w.grownBy w' (some E) /\
  ((nx bits=none/\e=.returned (.tuple #[nH,.slice none 0 0,.bool false])) \/
   (∃ a c o k a' c' j,nx bits=some (o,k,bits.drop j)/\e=.returned (.tuple #[.agg #[.slice a (o:List Int).length c,.int .i64 k],.slice a' (bits.drop j).length c',.bool true]) /\
    (∀ m,m<w.heap.size->zQ w' w'.heap.size m (.slice a o.length c) o)/\zQ w' B E (.slice a' (bits.drop j).length c') (bits.drop j)/\St w' s0))
