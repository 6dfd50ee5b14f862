import Derived.Test.YtdceajgpolckiaaGreatDoorQr05
import Derived.BigRegion
open Go.Proofs.Tryz
set_option linter.unusedSimpArgs false
set_option maxHeartbeats 16000000
set_option maxRecDepth 100000
namespace Go.Proofs.YtdceajgpolckiaaGreatDoor
variable {a b w w':World} {s v:Value} {B E M N R c i j lo' nb t:Nat} {T g k node pl u:Int} {l o xs y:List Int} {r:Option Nat} {p:Addr}
section
open Go.RowKit Ds
def oX (w:World) (lo:Nat) (v:Value) (ts:List Tr):Prop:=(v=.slice none 0 0/\ts=[])\/Own w lo v ts
theorem oX.parts {lo:Nat}{ts:List Tr}(h:oX w lo v ts):dQ w w.heap.size v ts:=by
 rcases h with⟨rfl,rfl⟩|h
 ·exact eK _ _
 ·exact h.parts
theorem oX.keep {lo:Nat}{ts:List Tr}(h:oX w lo v ts)(hb:Below w.heap.size w w'):oX w' lo v ts:=by
 rcases h with h|h
 ·exact .inl h
 ·exact .inr (h.keep hb)
theorem oX.mono {lo:Nat}{ts:List Tr}(h:oX w lo v ts)(hl:lo'<=lo):oX w lo' v ts:=by
 rcases h with h|h
 ·exact .inl h
 ·exact .inr (h.mono hl)
theorem oX.slice {lo:Nat}{ts:List Tr}(h:oX w lo v ts):∃ a c,v=.slice a ts.length c:=by
 rcases h with⟨rfl,rfl⟩|⟨b,o,c,h,_⟩
 ·exact⟨_,_,rfl⟩
 ·exact⟨_,_,h⟩
theorem chX (g:Nat)(l:List Pt)(p:Pt):iD g (l++[p])=Nat.gcd (iD g l) p.2.natAbs:=by
 induction l generalizing g with
 | nil=>rfl
 | cons q l ih=>simp only[qG,iD,ih]
theorem chZ {l:List Pt}{p:Pt}(h:l[i]? = some p):iD 0 (l.take (i+1))=Nat.gcd (iD 0 (l.take i)) p.2.natAbs:=by
 rw[fZ,h];exact chX _ _ _
theorem chJ {l:List Pt}(h:∀ p∈l,p.2.natAbs<=M)(hp:jZ l):iD 0 l<=M:=by
 rw[aqX,Nat.gcd_zero_left];cases l with
 | nil=>simp[dv]
 | cons p l =>
  have h1:=h p (by simp);have h2:=hp p (by simp);exact bQ (Nat.le_of_dvd (by omega) (aqZ (l:=p::l) (by simp))) h1
def aY (g:Int) (ts:List Tr) (i:Nat):List Tr:=(ts.take i).map (fun t=>(t.1,t.2.1,t.2.2 / g))++ts.drop i
theorem rT (g:Int)(ts:List Tr)(i:Nat):(aY g ts i).length=ts.length:=by simp[aY];omega
theorem ciQ (g:Int){ts:List Tr}(h:i<ts.length):(aY g ts i)[i]? = ts[i]?:=by
 have e:((ts.take i).map (fun t:Tr=>(t.1,t.2.1,t.2.2 / g))).length=i:=by simp;omega
 rw[aY,jF (by omega),e];simp
theorem ciX (g:Int){ts:List Tr}{t:Tr}(h:ts[i]? = some t):(aY g ts i).set i (t.1,t.2.1,t.2.2 / g)=aY g ts (i+1):=by
 have hi:=(cQ.1 h).1;have e:((ts.take i).map (fun t:Tr=>(t.1,t.2.1,t.2.2 / g))).length=i:=by simp;omega
 have e2:ts.drop i=t::ts.drop (i+1):=by rw[lJ hi,(cQ.1 h).2]
 rw[aY,aY,sP _ _ (by omega),e,e2,fZ,h];simp
theorem ciZ (g:Int)(ts:List Tr):rd (aY g ts ts.length)=cut g (rd ts):=by simp[aY,rd,cut]
theorem ciJ (g:Int)(ts:List Tr):aY g ts 0=ts:=by simp[aY]
theorem atQ {ts:List Tr}{t:Tr}(h:t∈aY g ts i):∃ u∈ts,t.1=u.1/\t.2.1=u.2.1:=by
 rcases kV.1 h with h|h
 ·obtain⟨u,hu,rfl⟩:=tX.1 h;exact⟨u,aH hu,rfl,rfl⟩
 ·exact⟨t,zE h,rfl,rfl⟩
theorem jZ.take {l:List Pt}(h:jZ l)(i:Nat):jZ (l.take i):=fun p hp=>h p (aH hp)
theorem atX (lo:Nat)(v:Value)(ts:List Tr)(w:World)(ho:Own w lo v ts)(hp:jZ (rd ts))(hM:tot (rd ts)<=4611686018427387904)(l:List Pt)(er:Int)(hr:bU (rd ts)=(l,er)) :
  Calls prog 114 #[v] w fun e w'=>∃ v' us,e=.returned (.tuple #[v',.int .i64 er])/\rd us=l/\oX w' lo v' us/\Below lo w w'/\∀ t∈us,∃ u∈ts,t.1=u.1/\t.2.1=u.2.1:=by
 obtain⟨b,o,c,rfl,hc,hl,hlo,hrow,hI⟩:=ho;have HH:Hid (Row w b o ts/\(∀ t∈ts,jQ w w.heap.size b t.1 t.2.1)/\jZ (rd ts)/\tot (rd ts)<=4611686018427387904/\bU (rd ts)=(l,er)):=⟨hrow,hI,hp,hM,hr⟩;have hbs:=hrow.lt;clear hrow hI hp hM hr;by_cases h0:ts=[]
 ·subst h0
  have h1:=HH.out.2.2.2.2;obtain⟨rfl,rfl⟩:l=[]/\er=6:=by simp[bU,rd] at h1;exact⟨h1.1,h1.2.symm⟩
  clear h1 HH;go_enter func114,ntmps114;go_wp2;exact uQ (v:=.tuple #[.slice none 0 0,.int .i64 6]) (by simp[results,results114,go_sem]) rfl ⟨_,[],rfl,rfl,.inl ⟨rfl,rfl⟩,aQ _ _,fun t ht=>by cases ht⟩
 have hpos:0<ts.length:=by cases ts with|nil=>exact absurd rfl h0|cons _ _=>simp
 have hz0:((ts.length:Int) == 0)=false:=by simp;exact h0
 clear h0;go_enter func114,ntmps114;go_wp2
 go_loopw [4,13] (fun s u wr=>∃ (i g:Nat),s=.int .i64 (g:Int)/\u=.int .i64 (i:Int)/\i<=ts.length/\iD 0 ((rd ts).take i)=g/\Below w.heap.size w wr) (fun _ u _=>ts.length - (intOf u).toNat)
 case atStart=>exact⟨0,0,rfl,rfl,kQ _,by simp[iD],aQ _ _⟩
 case round =>
  obtain⟨i,g,rfl,rfl,hit,hg,hbl⟩:=hrel;have HG:=qQ hg
  have hgb:g<=4611686018427387904:=by
   rw[<-hg];refine chJ (fun p hp=>?_) (jZ.take HH.out.2.2.1 i);have h1:=jZ.le_tot (Nn.of_pos HH.out.2.2.1) (aH hp);have h2:=HH.out.2.2.1 p (aH hp);have h3:=HH.out.2.2.2.1;omega
  clear hg;by_cases h1:i<ts.length
  ·obtain⟨⟨s,xs,k⟩,hs⟩:=cX h1
   obtain⟨sa,sc,he,_⟩:=HH.out.2.1 _ (qX hs);simp only at he;subst he;obtain⟨c1,c2⟩:=HH.out.1.cells.get hbl hbs hs;simp only at c1 c2;have HZ:=qQ (sV hs);have hk0:0<k:=HH.out.2.2.1 (xs,k) (qX HZ.out)
   have hk1:k<=4611686018427387904:=by
    have h1:=jZ.le_tot (Nn.of_pos HH.out.2.2.1) (qX HZ.out);have h3:=HH.out.2.2.2.1;simp only at h1;omega
   obtain⟨m,rfl⟩:=gA (bF hk0);have kc:=fun W=>gL g m (by omega) (by omega) W;have HN:Hid (iD 0 ((rd ts).take (i+1))=Nat.gcd g m):=by rw[Hid,chZ HZ.out,HG.out];rfl
   clear hs;go_wp2_with (go_at_call 59;refine(kc _).mono ?_;rintro e w1 ⟨rfl,hb1⟩)
   go_roundw
   case rel=>exact⟨i+1,Nat.gcd g m,rfl,by go_num,h1,HN.out,bt (bal hbl _) hb1⟩
   case measure=>simp[intOf];omega
  ·have hgd:g=dv (rd ts):=by rw[<-HG.out,iL (by omega),aqX,Nat.gcd_zero_left]
   have HD:=qQ hgd;have hg0:0<g:=by rw[hgd];exact eT HH.out.2.2.1 (by intro h;rw[<-tV,h] at hpos;simp at hpos)
   have HR:=qQ (HH.out.1.keep hbl);have HI:Hid (∀ t∈ts,jQ wr wr.heap.size b t.1 t.2.1):=fun t ht=>(HH.out.2.1 t ht).at2 hbl;clear hgd HG;go_wp2
   go_loopw [24] (fun u wq=>∃ j:Nat,u=.int .i64 (j:Int)/\j<=ts.length/\Row wq b o (aY g ts j)/\(∀ t∈ts,jQ wq wq.heap.size b t.1 t.2.1)/\Below lo w wq) (fun u _=>ts.length - (intOf u).toNat)
   case atStart=>exact⟨0,rfl,kQ _,by rw[ciJ];exact HR.out,HI.out,hbl.mono (by omega)⟩
   case round =>
    obtain⟨j,rfl,hjt,hrow,hints,hbq⟩:=hrel;have HR2:=qQ hrow;have HI2:=qQ hints;clear hrow hints;by_cases h2:j<ts.length
    ·obtain⟨⟨s,xs,k⟩,hs⟩:=cX h2
     have hs2:(aY g ts j)[j]? = some (s,xs,k):=by rw[ciQ _ h2];exact hs
     obtain⟨c1,c2⟩:=HR2.out.cells j _ hs2;have c3:=HR2.out.thaw (j*2+1) (by rw[rT];omega);rw[<-vV] at c3;simp only at c1 c2;have hk0:0<k:=HH.out.2.2.1 (xs,k) (qX (sV hs))
     have hk1:k<=4611686018427387904:=by
      have h1:=jZ.le_tot (Nn.of_pos HH.out.2.2.1) (qX (sV hs));have h3:=HH.out.2.2.2.1;simp only at h1;omega
     obtain⟨m,rfl⟩:=gA (bF hk0);have hdv:((m:Int) / (g:Int))<=4611686018427387904:=fN (gN _ (by omega)) hk1;have hdv0:0<=((m:Int) / (g:Int)):=eP (by omega) (by omega);have hgz:((g:Int) == 0)=false:=by simp;omega
     have HS:=qQ hs
     have HR3:Hid (Row (wr.setCell ⟨b,o+j*2+1,none⟩ (.int .i64 ((m:Int) / (g:Int)))) b o (aY g ts (j+1))):=by
      have:=HR2.out.setW hs2 ((m:Int) / (g:Int));rwa [show(aY g ts j).set j (s,xs,(m:Int) / (g:Int))=aY g ts (j+1) from ciX g hs] at this
     clear hs hs2;go_wp2
     go_roundw
     case rel=>exact⟨j+1,by go_num,h2,HR3.out,fun t ht=>by simpa using (HI2.out t ht).set rfl _,hbq.setCell (by simp;omega) _⟩
     case measure=>simp[intOf];omega
    ·have hj:j=ts.length:=by omega
     subst hj;have hcut:rd (aY g ts ts.length)=cut (dv (rd ts)) (rd ts):=by rw[ciZ,HD.out]
     have hI3:∀ t∈aY g ts ts.length,jQ wr wr.heap.size b t.1 t.2.1:=by
      intro t ht;obtain⟨u,hu,e1,e2⟩:=atQ ht;rw[e1,e2];exact HI2.out u hu
     have hown:Own wr lo (.slice (some ⟨b,o,none⟩) ts.length c) (aY g ts ts.length):=⟨b,o,c,by rw[rT],by rw[rT];exact hc,by rw[rT];exact hl,hlo,HR2.out,hI3⟩;have HO:=qQ hown
     have hnn:Nn (rd (aY g ts ts.length)):=by
      rw[hcut];intro p hp;obtain⟨q,hq,rfl⟩:=tX.1 hp;exact eP (bF (HH.out.2.2.1 q hq)) (by omega)
     obtain⟨T,hT⟩:∃ T,tot (cut (dv (rd ts)) (rd ts))=T:=⟨_,rfl⟩
     have hTle:T<=4611686018427387904:=by
      rw[<-hT,ccJ fun p hp=>fT hp];exact fN (gN _ (Nn.of_pos HH.out.2.2.1).tot_nn) HH.out.2.2.2.1
     have kc:=nM wr.heap.size (.slice (some ⟨b,o,none⟩) ts.length c) (aY g ts ts.length) wr (vQ _) hown.parts hnn (by rw[hcut,hT];exact hTle) T (by rw[hcut,hT]);have hlow:=HH.out.2.2.2.2;have hne:rd ts≠[]:=by intro h;rw[<-tV,h] at hpos;simp at hpos
     rw[bU,xQ hne,hT,tV] at hlow;have HL:=qQ hlow;have HCU:=qQ hcut;clear hlow hcut hI3 hown hnn hne hT HR2 HI2;by_cases hm:1073741824<T
     ·have hl2:=HL.out
      rw[zQ (.inl hm)] at hl2;simp only[fQ] at hl2;obtain⟨rfl,rfl⟩:=hl2;go_wp2_with (go_at_call 38;refine kc.mono ?_;rintro e w1 ⟨rfl,hb1⟩);exact uQ (v:=.tuple #[.slice none 0 0,.int .i64 4]) (by simp[results,results114,go_sem]) rfl ⟨_,[],rfl,rfl,.inl ⟨rfl,rfl⟩,hbq.trans (hb1.mono (by have:=hbq.size;omega)),fun t ht=>by cases ht⟩
     ·by_cases hm2:4096<ts.length
      ·have hl2:=HL.out
       rw[zQ (.inr hm2)] at hl2;simp only[fQ] at hl2;obtain⟨rfl,rfl⟩:=hl2;go_wp2_with (go_at_call 38;refine kc.mono ?_;rintro e w1 ⟨rfl,hb1⟩);exact uQ (v:=.tuple #[.slice none 0 0,.int .i64 4]) (by simp[results,results114,go_sem]) rfl ⟨_,[],rfl,rfl,.inl ⟨rfl,rfl⟩,hbq.trans (hb1.mono (by have:=hbq.size;omega)),fun t ht=>by cases ht⟩
      ·have hl2:=HL.out
       rw[xQ (by intro h;rcases h with h|h <;> omega)] at hl2;simp only[fQ] at hl2;obtain⟨hl2,rfl⟩:=hl2;have HL2:=qQ hl2;clear hl2;go_wp2_with (go_at_call 38;refine kc.mono ?_;rintro e w1 ⟨rfl,hb1⟩);exact uQ (v:=.tuple #[.slice (some ⟨b,o,none⟩) ts.length c,.int .i64 0]) (by simp[results,results114,go_sem]) rfl ⟨_,aY g ts ts.length,rfl,HCU.out.trans HL2.out,.inr (HO.out.keep hb1),hbq.trans (hb1.mono (by have:=hbq.size;omega)),fun t ht=>atQ ht⟩
theorem sT {l:List Pt}(h:l.all tJ=true):Nn l/\∀ p∈l,p.2<=1073741824:=by
 have h1:∀ p∈l,0<=p.2/\p.2<=1073741824:=by
  intro p hp;have:=dL.1 h p hp;simp[tJ] at this;exact this.1
 exact⟨fun p hp=>(h1 p hp).1,fun p hp=>(h1 p hp).2⟩
theorem cjQ {l:List Pt}(h:l.all tJ=true)(hl:l.length<=1073741824):tot l<=4611686018427387904:=by
 have h1:=ccX (sT h).2;have h2:(l.length:Int)*1073741824<=1073741824*1073741824:=vK (by omega) (by omega);omega
theorem mW (B:Nat)(v:Value)(ts:List Tr)(w:World)(hB:B<=w.heap.size)(hp:dQ w B v ts)(l:List Pt)(er:Int)(hr:uY (rd ts)=(l,er)) :
  Calls prog 71 #[v] w fun e w'=>∃ v' us,e=.returned (.tuple #[v',.int .i64 er])/\rd us=l/\oX w' w.heap.size v' us/\Below w.heap.size w w'/\sQ w.heap.size us:=by
 have HP:=qQ hp;obtain⟨a,c,rfl,hc,hl,_⟩:=hp;cases hok:(rd ts).all tJ with
 | false =>
  rw[uY,hok] at hr;simp only[Bool.false_eq_true,jK,fQ] at hr;obtain⟨rfl,rfl⟩:=hr;have kc:=asQ B _ ts w hB HP.out _ hok;clear hok;go_enter func71,ntmps71;go_wp2_with (go_at_call 120;refine kc.mono ?_;rintro e w1 ⟨rfl,hb1⟩);exact uQ (v:=.tuple #[.slice none 0 0,.int .i64 3]) (by simp[results,results71,go_sem]) rfl ⟨_,[],rfl,rfl,.inl ⟨rfl,rfl⟩,hb1,sQ.nil _⟩
 | true =>
  rw[uY,hok] at hr;simp only[aU] at hr;have kc:=asQ B _ ts w hB HP.out _ hok;have hM:=cjQ hok (by rw[tV];exact hl);have HK:Hid (bU (gath (rd ts))=(l,er)/\Nn (rd ts)/\tot (rd ts)<=4611686018427387904):=⟨hr,(sT hok).1,hM⟩;clear hok hr hM;go_enter func71,ntmps71;go_wp2_with (go_at_call 120;refine kc.mono ?_;rintro e w1 ⟨rfl,hb1⟩);refine(chQ B _ ts w1 (bQ hB hb1.size) (HP.out.at hB hb1) HK.out.2.1 HK.out.2.2 _ rfl).mono ?_;rintro e w2 ⟨v2,us,rfl,ho2,hrd,hb2,hfr2⟩;have hbb:Below w.heap.size w w2:=bt hb1 hb2;have HFR2:=qQ (hfr2.mono hb1.size);have kl:=atX w.heap.size v2 us w2 (ho2.mono hb1.size) (by rw[hrd];exact yR HK.out.2.1) (by rw[hrd,qW];exact HK.out.2.2) l er (by rw[hrd];exact HK.out.1);obtain⟨b',o',c',rfl,_⟩:=ho2;clear kc hb2 hfr2;go_wp2_with fail;refine kl.mono ?_;rintro e w3 ⟨v3,us3,rfl,hrd3,ho3,hb3,hsub⟩;obtain⟨a3,c3,rfl⟩:=ho3.slice;have HO3:=qQ ho3;have HR3:=qQ hrd3;have HFR:=qQ (HFR2.out.of hsub);clear ho3 hrd3 hrd kl hsub;go_wp2;exact uQ (v:=.tuple #[.slice a3 us3.length c3,.int .i64 er]) (by simp[results,results71,go_sem]) rfl ⟨_,us3,rfl,HR3.out,HO3.out,hbb.trans hb3,HFR.out⟩
theorem cjX {α:Type}{l k:List α}{x:α}(h:l.take i=k.take i)(hl:l[i]? = some x)(hk:k[i]? = some x):l.take (i+1)=k.take (i+1):=by
 rw[fZ,fZ,h,hl,hk]
theorem atZ (B:Nat)(u v:Value)(ts us:List Tr)(w:World)(hB:B<=w.heap.size)(hp:dQ w B u ts)(hq:dQ w B v us)(r:Bool)(hr:decide (rd ts=rd us)=r) :
  Calls prog 72 #[u,v,.func (.func 73) #[] #[]] w fun e w'=>e=.returned (.bool r)/\Below w.heap.size w w':=by
 have HP:=qQ hp;have HQ:=qQ hq;have HR:=qQ hr;obtain⟨a,c,rfl,hc,hl,_⟩:=hp;obtain⟨a2,c2,rfl,hc2,hl2,_⟩:=hq;clear hr;by_cases hlen:ts.length=us.length
 ·have hle:(((ts.length:Int)) == (us.length:Int))=true:=by simp[hlen]
  have hle2:(((ts.length:Int)) != (us.length:Int))=false:=by simp[hlen]
  have HLN:=qQ hlen;clear hlen;go_enter func72,ntmps72;go_wp2
  go_loopw [17] (fun s wr=>∃ i:Nat,s=.int .i64 (i:Int)/\i<=ts.length/\(rd ts).take i=(rd us).take i/\Below w.heap.size w wr) (fun s _=>ts.length - (intOf s).toNat)
  case atStart=>exact⟨0,rfl,kQ _,by simp,aQ _ _⟩
  case round =>
   obtain⟨i,rfl,hit,htk,hbl⟩:=hrel;have HT:=qQ htk;clear htk;by_cases h1:i<ts.length
   ·obtain⟨b,o,sa,sc,xs,k,rfl,hb,hs,c1,c2',hI⟩:=HP.out.get hB hbl h1
    obtain⟨b2,o2,sa2,sc2,xs2,k2,rfl,hb2,hs2,d1,d2,hI2⟩:=HQ.out.get hB hbl (i:=i) (by have:=HLN.out;omega);have HS:=qQ (sV hs);have HS2:=qQ (sV hs2);have HI:=qQ hI;have HI2:=qQ hI2;have hs1:=hbl.size;have z1:(i:Int)<(us.length:Int):=by have:=HLN.out;omega
    have n1:b<wr.heap.size:=by omega
    have n2:b2<wr.heap.size:=by omega
    clear hs hs2 hI hI2;by_cases he:k=k2/\xs=xs2
    ·have hd:Hid (decide (k=k2/\xs=xs2)=true):=uG he
     have HE:Hid ((xs2,k2)=(xs,k)):=by rw[Hid,he.1,he.2]
     clear he;go_wp2_with (go_at_call 73;refine(arZ B B B _ _ _ _ xs xs2 _ ?_ ?_ ?_ _ hd.out).mono ?_;(simp;omega);(exact HI.out.at (by omega) (bal (ba _ _) _));(exact HI2.out.at (by omega) (bal (ba _ _) _));rintro e w1 ⟨rfl,hb1⟩)
     go_roundw
     case rel=>exact⟨i+1,by go_num,h1,cjX HT.out HS.out (by rw[HS2.out,HE.out]),bt (bal (bal hbl _) _) hb1⟩
     case measure=>simp[intOf];omega
    ·have hd:Hid (decide (k=k2/\xs=xs2)=false):=rV he
     have hr1:r=false:=by
      rw[<-HR.out];refine rV fun h=>he ?_;have h2:=HS.out;rw[h,HS2.out] at h2;simp only[zX,fQ] at h2;exact⟨h2.2.symm,h2.1.symm⟩
     subst hr1;clear he;go_wp2_with (go_at_call 73;refine(arZ B B B _ _ _ _ xs xs2 _ ?_ ?_ ?_ _ hd.out).mono ?_;(simp;omega);(exact HI.out.at (by omega) (bal (ba _ _) _));(exact HI2.out.at (by omega) (bal (ba _ _) _));rintro e w1 ⟨rfl,hb1⟩);go_ret;exact⟨rfl,bt (bal (bal hbl _) _) hb1⟩
   ·have hr1:r=true:=by
     rw[<-HR.out];refine uG ?_;have:=HT.out;rwa [iL (by omega),iL (by have:=HLN.out;omega)] at this
    subst hr1;go_wp2;go_ret;exact⟨rfl,hbl⟩
 ·have hle:(((ts.length:Int)) == (us.length:Int))=false:=by simp;omega
  have hle2:(((ts.length:Int)) != (us.length:Int))=true:=by simp;omega
  have hr1:r=false:=by
   rw[<-HR.out];refine rV fun h=>hlen ?_;rw[<-tV,h,tV]
  subst hr1;go_enter func72,ntmps72;go_wp2;go_ret;exact⟨rfl,aQ _ _⟩
def pX (l:List Pt):List Pt × Int:=if (uY l).2=0 then if (uY l).1=l then (l,0) else ([],2) else ([],(uY l).2)
theorem cjZ (l:List Pt):(bU l).2=0\/(bU l).1=[]:=by
 unfold bU;split
 ·exact .inr rfl
 ·split
  ·exact .inr rfl
  ·exact .inl rfl
theorem cjJ (l:List Pt):(uY l).2=0\/(uY l).1=[]:=by
 unfold uY;split
 ·exact cjZ _
 ·exact .inr rfl
theorem atJ (B:Nat)(v:Value)(ts:List Tr)(w:World)(hB:B<=w.heap.size)(hp:dQ w B v ts)(l:List Pt)(er:Int)(hr:pX (rd ts)=(l,er)) :
  Calls prog 35 #[v] w fun e w'=>∃ v' us,e=.returned (.tuple #[v',.int .i64 er])/\rd us=l/\oX w' w.heap.size v' us/\Below w.heap.size w w'/\sQ w.heap.size us:=by
 have HP:=qQ hp;obtain⟨a,c,rfl,hc,hl,_⟩:=hp;obtain⟨⟨m,e1⟩,hm⟩:∃ m,uY (rd ts)=m:=⟨_,rfl⟩;have kc:=mW B _ ts w hB HP.out m e1 hm;have hme:=cjJ (rd ts);rw[pX,hm] at hr;rw[hm] at hme;simp only at hr hme;have HR:Hid ((if e1=0 then if m=rd ts then (rd ts,0) else ([],2) else ([],e1))=(l,er)/\(e1=0\/m=[])):=⟨hr,hme⟩;clear hr hme hm;go_enter func35,ntmps35;go_wp2_with fail;refine kc.mono ?_;rintro e w1 ⟨v1,us,rfl,hrd,ho,hb1,hfr⟩;have HFR:=qQ hfr;clear hfr;have HO:=qQ ho;have HD:=qQ hrd;obtain⟨a1,c1,rfl⟩:=ho.slice;clear ho hrd kc;by_cases h0:e1=0
 ·subst h0
  have hP1:dQ w1 w1.heap.size (.slice a ts.length c) ts:=(HP.out.at hB hb1).mono (bQ hB hb1.size);by_cases h2:m=rd ts
  ·have h3:=HR.out.1
   rw[zQ rfl,zQ h2] at h3;simp only[fQ] at h3;obtain⟨h3,rfl⟩:=h3;have HL:Hid (rd us=l):=by rw[Hid,HD.out,h2,h3]
   have ke:=atZ w1.heap.size _ _ ts us w1 (vQ _) hP1 HO.out.parts true (uG (by rw[HD.out,h2]));clear h2 h3 hP1;go_wp2_with fail;refine ke.mono ?_;rintro e w2 ⟨rfl,hb2⟩;clear ke;go_wp2;exact uQ (v:=.tuple #[.slice a1 us.length c1,.int .i64 0]) (by simp[results,results35,go_sem]) rfl ⟨_,us,rfl,HL.out,HO.out.keep hb2,bt hb1 hb2,HFR.out⟩
  ·have h3:=HR.out.1
   rw[zQ rfl,xQ h2] at h3;simp only[fQ] at h3;obtain⟨rfl,rfl⟩:=h3;have ke:=atZ w1.heap.size _ _ ts us w1 (vQ _) hP1 HO.out.parts false (rV (by rw[HD.out];exact fun h=>h2 h.symm));clear h2 hP1;go_wp2_with fail;refine ke.mono ?_;rintro e w2 ⟨rfl,hb2⟩;clear ke;go_wp2;exact uQ (v:=.tuple #[.slice none 0 0,.int .i64 2]) (by simp[results,results35,go_sem]) rfl ⟨_,[],rfl,rfl,.inl ⟨rfl,rfl⟩,bt hb1 hb2,sQ.nil _⟩
 ·have h3:=HR.out.1
  have h4:=HR.out.2;rw[xQ h0] at h3;simp only[fQ] at h3;obtain⟨rfl,rfl⟩:=h3
  have HL:Hid (rd us=[]):=by
   rcases h4 with h|h
   ·exact absurd h h0
   ·rw[Hid,HD.out,h]
  have h0':(e1 == 0)=false:=by simpa using h0
  clear h4;go_wp2;exact uQ (v:=.tuple #[.slice a1 us.length c1,.int .i64 e1]) (by simp[results,results35,go_sem]) rfl ⟨_,us,rfl,HL.out,HO.out,hb1,HFR.out⟩
theorem cR (B:Nat)(v:Value)(ts:List Tr)(w:World)(hB:B<=w.heap.size)(hp:dQ w B v ts)(l:List Pt)(er:Int)(hr:pX (rd ts)=(l,er)) :
  Calls prog 35 #[v] w fun e w'=>∃ v' us,e=.returned (.tuple #[v',.int .i64 er])/\rd us=l/\oX w' w.heap.size v' us/\Below w.heap.size w w' :=
 (atJ B v ts w hB hp l er hr).mono fun _ _ ⟨v',us,h1,h2,h3,h4,_⟩=>⟨v',us,h1,h2,h3,h4⟩
theorem dR (w:World)(B nb:Nat)(v:Value)(xs:List Int)(k:Int)(hB:B<=w.heap.size)(h:jQ w B nb v xs) :
  dQ (w.alloc (.cells #[v,.int .i64 k] 77)) (w.heap.size+1) (.slice (some ⟨w.heap.size,0,none⟩) 1 1) [(v,xs,k)]:=by
 refine⟨_,1,rfl,by simp,by simp,fun t ht=>?_,fun _=>⟨w.heap.size,0,rfl,by omega,fun i t hi=>?_⟩⟩
 ·simp at ht;subst ht
  exact(h.at hB (ba _ _)).mono (by omega) (.inr (by omega))
 ·match i,hi with
  | 0,hi =>
   simp at hi;subst hi;exact⟨by simp[go_sem],by simp[go_sem]⟩
end
section
open Go.RowKit
abbrev rv (n m:Int):Value:=.agg #[.int .i64 n,.int .i64 m]
theorem nW (u d n m e:Int)(hu:u<=9223372036854775807)(hd:d<=9223372036854775807)(h:Rt.kY u d=(n,m,e))(w:World) :
  Calls prog 30 #[.int .i64 u,.int .i64 d] w fun x w'=>x=.returned (.tuple #[rv n m,.int .i64 e])/\Below w.heap.size w w':=by
 have H:=qQ h;clear h;by_cases c1:u<0
 ·have hr:(0,0,3)=(n,m,e):=by rw[<-H.out];unfold Rt.kY;rw[zQ (.inl c1)]
  simp only[fQ] at hr;obtain⟨rfl,rfl,rfl⟩:=hr;go_enter func30,ntmps30;go_wp2;exact uQ (v:=.tuple #[rv 0 0,.int .i64 3]) (by simp[results,results30,go_sem]) rfl ⟨rfl,ba _ _⟩
 by_cases c2:d<1
 ·have hr:(0,0,3)=(n,m,e):=by rw[<-H.out];unfold Rt.kY;rw[zQ (.inr c2)]
  simp only[fQ] at hr;obtain⟨rfl,rfl,rfl⟩:=hr;go_enter func30,ntmps30;go_wp2;exact uQ (v:=.tuple #[rv 0 0,.int .i64 3]) (by simp[results,results30,go_sem]) rfl ⟨rfl,ba _ _⟩
 have hm:=Rt.iT u d n m e (by omega) (by omega) H.out;clear H;obtain⟨x,rfl⟩:=gA (show 0<=u by omega);obtain⟨y,rfl⟩:=gA (show 0<=d by omega);rw[show Int.gcd (x:Int) (y:Int)=Nat.gcd x y from rfl] at hm;have hg1:1<=Nat.gcd x y:=Nat.gcd_pos_of_pos_right _ (by omega);have hg2:Nat.gcd x y<=y:=Nat.gcd_le_right _ (by omega);have q1:0<=(x:Int) / (Nat.gcd x y:Nat):=eP (by omega) (by omega);have q2:0<=(y:Int) / (Nat.gcd x y:Nat):=eP (by omega) (by omega);have q3:(x:Int) / (Nat.gcd x y:Nat)<=9223372036854775807:=fN (gN _ (by omega)) hu;have q4:(y:Int) / (Nat.gcd x y:Nat)<=9223372036854775807:=fN (gN _ (by omega)) hd;rcases hm with⟨hc,rfl,rfl,rfl⟩|⟨hc1,hc2,rfl,rfl,rfl⟩
 ·have hc':1073741824<(x:Int) / (Nat.gcd x y:Nat)\/((x:Int) / (Nat.gcd x y:Nat)<=1073741824/\1073741824<(y:Int) / (Nat.gcd x y:Nat)):=by omega
  clear hc;rcases hc' with hc1|⟨hc1,hc2⟩
  all_goals
   go_enter func30,ntmps30;go_wp2_with (go_at_call 59;refine(gL _ _ (by omega) (by omega) _).mono ?_;rintro e w' ⟨rfl,hbl⟩);obtain⟨hcell,hfroz⟩:=bcell hbl;generalize Nat.gcd x y=g at *
   have hz:w.heap.size<w'.heap.size:=by have:=hbl.size;simp at this;omega
   go_region
   go_wp2;exact uQ (v:=.tuple #[rv 0 0,.int .i64 4]) (by simp[results,results30,go_sem,hcell,hz]) rfl ⟨rfl,(bal (bs (bs (bt (ba _ _) hbl) (vQ _) _) (vQ _) _) _).drew⟩
 ·go_enter func30,ntmps30
  go_wp2_with (go_at_call 59;refine(gL _ _ (by omega) (by omega) _).mono ?_;rintro e w' ⟨rfl,hbl⟩);obtain⟨hcell,hfroz⟩:=bcell hbl;have hz:w.heap.size<w'.heap.size:=by have:=hbl.size;simp at this;omega
  go_region
  go_wp2;exact uQ (v:=.tuple #[rv (x / (Nat.gcd x y:Nat)) (y / (Nat.gcd x y:Nat)),.int .i64 0]) (by simp[results,results30,go_sem,hcell,hz]) rfl ⟨rfl,(bal (bs (bs (bt (ba _ _) hbl) (vQ _) _) (vQ _) _) _).drew⟩
end
section
open Go.RowKit Ds
def fH (l:List Pt) (y:List Int) (i j:Nat):Prop:=(∀ q p,q<i->l[q]? = some p->sJ p.1 y)/\(∀ q p,j<=q->l[q]? = some p->¬ sJ p.1 y)
theorem oW {l:List Pt}(h:cZ l){p q:Pt}(hij:i<j)(hi:l[i]? = some p)(hj:l[j]? = some q):sJ p.1 q.1:=by
 obtain⟨h1,rfl⟩:=cQ.1 hi;obtain⟨h2,rfl⟩:=cQ.1 hj;exact List.pairwise_iff_getElem.1 h i j h1 h2 hij
theorem fH.up {l:List Pt}{h:Nat}{p:Pt}(c:fH l y i j)(hr:cZ l)(hp:l[h]? = some p)(hlt:sJ p.1 y):fH l y (h+1) j:=by
 refine⟨fun q r hq hr2=>?_,c.2⟩;by_cases hqh:q=h
 ·subst hqh;rw[hp] at hr2;simp at hr2;subst hr2;exact hlt
 ·exact cF (oW hr (by omega) hr2 hp) hlt
theorem fH.none {l:List Pt}(c:fH l y i i)(hr:cZ l)(h:∀ p,l[i]? = some p->p.1≠y):∀ p∈l,p.1≠y:=by
 intro p hp he;obtain⟨q,hq,rfl⟩:=List.mem_iff_getElem.1 hp;have hq2:l[q]? = some l[q]:=zJ hq;rcases Nat.lt_trichotomy q i with h1|h1|h1
 ·have:=c.1 q _ h1 hq2;rw[he] at this;exact apJ _ this
 ·subst h1;exact h _ hq2 he
 ·obtain⟨r,hr2⟩:=cX (l:=l) (i:=i) (by omega)
  have h2:=oW hr h1 hr2 hq2;rw[he] at h2;exact c.2 i r (vQ _) hr2 h2
structure Dis (l:List Pt):Prop where
 rise:cZ l
 pos:jZ l
 le:tot l<=1073741824
 ne:l≠[]
 ok:l.all tJ=true
 few:l.length<=4096
 one:dv l=1
theorem ckQ {l:List Pt}(h:cZ l):cZ (cut g l):=by
 unfold cZ cut;rw[qE];exact h
theorem auQ (g:Nat):∀ l:List Pt,dv (l.map fun p=>(p.1,(g:Int)*p.2))=g*dv l
 | []=>by simp[dv]
 | p::l=>by
  simp only[xV,dv,auQ g l];rw[Int.natAbs_mul,Int.natAbs_natCast,Nat.gcd_mul_left]
theorem pW {l:List Pt}{g:Nat}(h:∀ p∈l,(g:Int) ∣ p.2):(cut g l).map (fun p=>(p.1,(g:Int)*p.2))=l:=by
 simp only[cut,List.map_map]
 conv=>rhs;rw[<-List.map_id l]
 refine yE fun p hp=>?_;simp only[Function.comp,id];rw[anQ (h p hp)]
theorem rW {l m:List Pt}(hp:jZ l)(hr:cZ l)(h:bU l=(m,0)):cZ m/\jZ m/\tot m<=1073741824/\m≠[]/\m.length<=4096/\dv m=1:=by
 unfold bU at h;split at h
 ·simp at h
 ·rename_i hne
  split at h
  ·simp at h
  ·rename_i hc
   simp only[fQ,zO] at h;subst h;have hd:=eT hp hne;have hdv:∀ p∈l,((dv l:Nat):Int) ∣ p.2:=fun p hp=>fT hp;refine⟨ckQ hr,?_,by omega,?_,by rw[cbJ];omega,?_⟩
   ·intro p hpm
    obtain⟨q,hq,rfl⟩:=tX.1 hpm;have h1:=hp q hq;exact jE h1 (by omega) (hdv q hq)
   ·simp[cut,hne]
   ·have e:=auQ (dv l) (cut (dv l) l)
    rw[pW hdv] at e;exact Nat.eq_of_mul_eq_mul_left hd (by rw[<-e,Nat.mul_one])
theorem mD {l m:List Pt}(h:pX l=(m,0)):m=l/\Dis l:=by
 unfold pX at h;split at h
 ·rename_i h0
  split at h
  ·rename_i h1
   simp only[fQ,zO] at h;have hm:uY l=(l,0):=vI h1 h0;unfold uY at hm;split at hm
   ·rename_i hok
    obtain⟨a,b,c,d,e,f⟩:=rW (yR (sT hok).1) (vR l) hm;exact⟨h.symm,a,b,c,d,hok,e,f⟩
   ·simp at hm
  ·simp at h
 ·rename_i h0
  simp only[fQ] at h;exact absurd h.2 h0
theorem auX {l:List Pt}(h:cZ l){p:Pt}(hp:l[i]? = some p):wt l p.1=p.2:=by
 induction l generalizing i with
 | nil=>simp at hp
 | cons q l ih =>
  cases i with
  | zero=>simp at hp;subst hp;exact iM h
  | succ i =>
   simp at hp;rw[eJ,ih (gD h) hp,xQ (eH ((iY.1 h).1 p (qX hp)))];omega
theorem uO {l:List Pt}(h:jZ l)(hne:l≠[]):0<tot l:=by
 cases l with
 | nil=>exact absurd rfl hne
 | cons p l=>have:=h p (by simp);have:=ccQ (l:=l) fun q hq=>h q (by simp[hq]);rw[iZ];omega
end
namespace Ds
abbrev Nx:=List Int->Option (List Int × Int × List Int)
def eI (nx:Nx):Nat->List Int->List Pt
 | 0,_=>[]
 | t+1,l=>match nx l with
  | none=>[]
  | some (o,u,r)=>(o,u)::eI nx t r
theorem ckX {nx:Nx}(h:nx l=none):eI nx t l=[]:=by
 cases t with
 | zero=>rfl
 | succ t=>simp[eI,h]
theorem ckZ {nx:Nx}{r:List Int}(h:nx l=some (o,u,r)):eI nx (t+1) l=(o,u)::eI nx t r:=by
 simp[eI,h]
def tY (l:List Int):Bool:=l.any fun b=>decide (b≠0/\b≠1)
def bA (bits:List Int) (times:Int):Int:=if 65536<bits.length then 5 else if times<0\/4096<times\/tY bits=true then 3 else 0
def rm (T pl w:Int):Int:=w*pl % T
def sZ (T pl:Int) (l:List Pt):List (List Int):=(l.filter fun p=>decide (T<=2*rm T pl p.2)).map (·.1)
def xG (T:Int) (l:List Pt):Int->Int->Int->List Int->Option (List Int × Int × List Int)
 | _,_,_,[]=>none
 | pl,node,u,b::r=>match (sZ T pl l)[(2*node+b).toNat]? with
  | some o=>some (o,u+1,r)
  | none=>xG T l (2*pl % T) (2*node+b - (sZ T pl l).length) (u+1) r
def cA (l:List Pt):Nx:=fun bits=>match l with
 | [p]=>some (p.1,0,bits)
 | l=>xG (tot l) l 1 0 0 bits
theorem auZ (a b n:Int):a*(b % n) % n=a*b % n:=by rw[Int.mul_emod,Int.emod_emod,<-Int.mul_emod]
theorem auJ (hT:0<T)(pl w:Int):0<=rm T pl w/\rm T pl w<T:=⟨Int.emod_nonneg _ (by omega),Int.emod_lt_of_pos _ hT⟩
theorem ckJ {r:Int}(hr:0<=r/\r<T):2*r % T=if T<=2*r then 2*r - T else 2*r:=by
 by_cases h:T<=2*r
 ·rw[zQ h,show 2*r=(2*r - T)+T*1 by omega,Int.add_mul_emod_self_left,Int.emod_eq_of_lt (by omega) (by omega)]
  omega
 ·rw[xQ h,Int.emod_eq_of_lt (by omega) (by omega)]
theorem clQ (T pl w:Int):rm T (2*pl % T) w=2*rm T pl w % T:=by
 unfold rm;rw[auZ,auZ,<-fM,<-fM,Int.mul_comm w 2]
def tr (T pl:Int):List Pt->Int
 | []=>0
 | p::l=>rm T pl p.2+tr T pl l
theorem sW (T pl:Int)(p:Pt)(l:List Pt):sZ T pl (p::l)=if T<=2*rm T pl p.2 then p.1::sZ T pl l else sZ T pl l:=by
 unfold sZ;rw[List.filter_cons];by_cases h:T<=2*rm T pl p.2
 ·rw[zQ h,zQ (uG h)];rfl
 ·rw[xQ h,xQ (by simp;omega)]
theorem avQ (T pl:Int)(l k:List Pt):sZ T pl (l++k)=sZ T pl l++sZ T pl k:=by simp[sZ]
theorem clX (hT:0<T)(pl:Int)(l:List Pt):tr T (2*pl % T) l=2*tr T pl l - T*(sZ T pl l).length:=by
 induction l with
 | nil=>simp[tr,sZ]
 | cons p l ih =>
  have h1:=auJ hT pl p.2;simp only[tr];rw[ih,clQ,ckJ h1,sW];split
  ·have e:T*((sZ T pl l).length+1:Int)=T*(sZ T pl l).length+T:=by rw[Int.mul_add,Int.mul_one]
   simp only[pJ];rw[zT,Int.natCast_one,e];omega
  ·omega
theorem clZ (hT:0<T)(pl:Int)(l:List Pt):0<=tr T pl l/\tr T pl l<=T*l.length:=by
 induction l with
 | nil=>simp[tr]
 | cons p l ih =>
  have h1:=auJ hT pl p.2;simp only[tr,pJ];rw[zT,Int.mul_add,Int.natCast_one,Int.mul_one];omega
theorem clJ (l:List Pt)(h:∀ p∈l,0<=p.2/\p.2<T):tr T 1 l=tot l:=by
 induction l with
 | nil=>rfl
 | cons p l ih =>
  have:=h p (by simp);rw[tr,iZ,ih fun q hq=>h q (by simp[hq]),rm,Int.mul_one,Int.emod_eq_of_lt this.1 this.2]
def Nd (T pl:Int) (l:List Pt) (node:Int):Prop:=∃ I:Int,tr T pl l=T*I/\0<=node/\node<I
theorem Nd.le {l:List Pt}(h:Nd T pl l node)(hT:0<T):0<=node/\node<l.length:=by
 obtain⟨I,h1,h2,h3⟩:=h;have h4:=(clZ hT pl l).2;rw[h1] at h4;have:=Int.le_of_mul_le_mul_left h4 hT;omega
theorem Nd.next {l:List Pt}{b:Int}(h:Nd T pl l node)(hT:0<T)(hb:0<=b/\b<=1)(hm:((sZ T pl l).length:Int)<=2*node+b):Nd T (2*pl % T) l (2*node+b - (sZ T pl l).length):=by
 obtain⟨I,h1,h2,h3⟩:=h;refine⟨2*I - (sZ T pl l).length,?_,by omega,by omega⟩;rw[clX hT,h1,Int.mul_sub,<-fM,<-fM,Int.mul_comm T 2]
theorem Nd.start {l:List Pt}(h:∀ p∈l,0<=p.2/\p.2<tot l):Nd (tot l) 1 l 0:=⟨1,by rw[clJ l h,Int.mul_one],by omega,by omega⟩
end Ds
section
open Go.RowKit Ds
theorem Dis.tpos {l:List Pt}(h:Dis l):1<=tot l:=by
 cases l with
 | nil=>exact absurd rfl h.ne
 | cons p l =>
  have h1:=h.pos p (by simp);have h2:0<=tot l:=(Nn.of_pos (l:=l) fun q hq=>h.pos q (by simp[hq])).tot_nn;rw[iZ];omega
theorem Dis.less {l:List Pt}(h:Dis l)(h2:2<=l.length):∀ p∈l,0<=p.2/\p.2<tot l:=by
 intro p hp;have h1:=h.pos p hp;refine⟨by omega,?_⟩;obtain⟨a,b,rfl⟩:=List.append_of_mem hp;have ha:0<=tot a:=(Nn.of_pos (l:=a) fun q hq=>h.pos q (by simp[hq])).tot_nn;have hb:0<=tot b:=(Nn.of_pos (l:=b) fun q hq=>h.pos q (by simp[hq])).tot_nn;rw[dK,iZ];cases a with
 | cons q a =>
  have:=h.pos q (by simp);have h3:0<=tot a:=(Nn.of_pos (l:=a) fun r hr=>h.pos r (by simp[hr])).tot_nn;rw[iZ];omega
 | nil=>cases b with
  | cons q b =>
   have:=h.pos q (by simp);have h3:0<=tot b:=(Nn.of_pos (l:=b) fun r hr=>h.pos r (by simp[hr])).tot_nn;rw[iZ];simp;omega
  | nil=>simp at h2
theorem jX (w:World)(r:Option Nat):w.grownBy w r:=gM w r
theorem bY {c:World}(h:a.grownBy b r)(k:b.grownBy c r):a.grownBy c r :=
 ⟨k.os.trans h.os,k.tape.trans h.tape,k.output.trans h.output,bQ h.size k.size,fun i hi hr=>(k.block i (uX hi h.size) hr).trans (h.block i hi hr)⟩
theorem zG (h:a.grownBy b r)(o:Obj):a.grownBy (b.alloc o) r:=bY h (eN b o r)
theorem gJ (h:a.grownBy b r):a.grownBy b.drew r:=⟨h.os,h.tape,h.output,h.size,h.block⟩
theorem nQ (h:a.grownBy b (some E))(hp:p.block=E)(u:Value):a.grownBy (b.setCell p u) (some E) :=
 bY h ⟨rfl,rfl,rfl,by simp[World.setCell],fun k _ hr=>jM _ _ _ _ (by rw[hp];intro e;exact hr (by rw[e]))⟩
theorem rM (h:a.grownBy b (some E))(k:Nat)(u:Value):a.grownBy (b.setCell ⟨E,k,none⟩ u) (some E):=nQ h rfl u
theorem lL (h:a.grownBy b r)(hp:a.heap.size<=p.block)(u:Value):a.grownBy (b.setCell p u) r :=
 ⟨h.os,h.tape,h.output,by simp[World.setCell];exact h.size,fun k hk hr=>(jM _ _ _ _ (by omega)).trans (h.block k hk hr)⟩
theorem gH (h:Below a.heap.size a b):a.grownBy b (some E):=⟨h.os,h.tape,h.output,h.size,fun k hk _=>h.block k hk⟩
theorem dF (h:a.grownBy b (some E))(hB:B<=E)(hE:B<=a.heap.size):Below B a b:=⟨h.os,h.tape,h.output,h.size,fun k hk=>h.block k (by omega) (by simp;omega)⟩
theorem nc (cs:Array Value)(t:TypeId)(k:Nat)(x:Value)(hN:N=w.heap.size)(hx:cs[k]? = some x):(w.alloc (.cells cs t)).cell? ⟨N,k,none⟩=some x:=by
 rw[sN _ _ _ _ hN];exact hx
theorem nf (cs:Array Value)(t:TypeId)(k:Nat)(hN:N=w.heap.size):(w.alloc (.cells cs t)).frozen? ⟨N,k,none⟩=false:=lE _ _ _ _ hN
structure Rv (w:World) (R:Nat) (s:Value) (k:Int):Prop where
 c0:w.cell? ⟨R,0,none⟩=some s
 c1:w.cell? ⟨R,1,none⟩=some (.int .i64 k)
 f0:w.frozen? ⟨R,0,none⟩=false
 f1:w.frozen? ⟨R,1,none⟩=false
 lt:R<w.heap.size
theorem Rv.below (h:Rv w R s k)(b:Below w.heap.size w w'):Rv w' R s k :=
 ⟨(b.cell (p:=⟨R,0,none⟩) h.lt).trans h.c0,(b.cell (p:=⟨R,1,none⟩) h.lt).trans h.c1,(b.frozen (p:=⟨R,0,none⟩) h.lt).trans h.f0,(b.frozen (p:=⟨R,1,none⟩) h.lt).trans h.f1,uX h.lt b.size⟩
theorem Rv.alloc (h:Rv w R s k)(o:Obj):Rv (w.alloc o) R s k:=h.below ((aQ _ w).alloc (vQ _) o)
theorem Rv.drew (h:Rv w R s k):Rv w.drew R s k:=⟨h.c0,h.c1,h.f0,h.f1,h.lt⟩
theorem Rv.new (w:World)(s:Value)(k:Int)(t:TypeId)(N:Nat)(hN:N=w.heap.size):Rv (w.alloc (.cells #[s,.int .i64 k] t)) N s k :=
 ⟨nc _ _ 0 _ hN rfl,nc _ _ 1 _ hN rfl,nf _ _ 0 hN,nf _ _ 1 hN,by simp;omega⟩
theorem jQ.setm (h:∀ m,m<N->jQ w B m v xs)(b k:Nat)(hp:b<N)(u:Value):∀ m,m<N->jQ (w.setCell ⟨b,k,none⟩ u) B m v xs:=by
 intro m hm;have h0:=h b hp;obtain⟨a,c,hv,hc,hl,hx⟩:=h m hm;refine⟨a,c,hv,hc,hl,fun hne=>?_⟩;obtain⟨b1,o1,ha,hb,hn,hcell⟩:=hx hne;refine⟨b1,o1,ha,hb,hn,fun i x hi=>?_⟩;rw[gQ]
 ·exact hcell i x hi
 ·obtain⟨a2,c2,hv2,_,_,hx2⟩:=h0
  obtain⟨b2,o2,ha2,_,hn2,_⟩:=hx2 hne;rw[hv,ha,ha2] at hv2;simp only[gZ,zX,bG] at hv2;intro e;simp only[bG] at e;omega
abbrev gK:Value:=.agg #[.slice none 0 0,.int .i64 0]
def cmQ (E:Nat) {S:Type} (St:World->S->Prop) (go:S->Nx) (us:S->Int) (s0 s:S) (b:Int) (w:World) (e:Ending) (w':World):Prop :=
 w.grownBy w' (some E) /\
  ((e=.returned (.tuple #[gK,.bool false])/\∃ s',St w' s'/\us s' = us s+1/\∀ l,go s (b::l)=go s' l) \/
   (∃ a c o,e=.returned (.tuple #[.agg #[.slice a (o:List Int).length c,.int .i64 (us s+1)],.bool true])/\(∀ m,m<w.heap.size->jQ w' w'.heap.size m (.slice a o.length c) o)/\St w' s0/\∀ l,go s (b::l)=some (o,us s+1,l)))
def avX (sur:Option (List Int)) (w:World) (e:Ending) (w':World):Prop :=
 Below w.heap.size w w'/\(sur=none->e=.returned (.tuple #[gK,.bool false])) /\
  ∀ o,sur=some o->∃ a c,e=.returned (.tuple #[.agg #[.slice a o.length c,.int .i64 0],.bool true])/\∀ m,m<w.heap.size->jQ w' w'.heap.size m (.slice a o.length c) o
structure Drw (N E fF fS:Nat) {S:Type} (St:World->S->Prop) (go:S->Nx) (us:S->Int) (s0:S) (sur:Option (List Int)):Prop where
 keep:∀ {w w' s},St w s->Below N w w'->N<=w.heap.size->St w' s
 lt:E<N
 nil:∀ s,go s []=none
 u0:us s0=0
 feed:sur=none->∀ w s b,St w s->N<=w.heap.size->0<=b/\b<=1->0<=us s/\us s<=65536->Calls prog fF #[.pointer (some ⟨E,0,none⟩),.int .i64 b] w (cmQ E St go us s0 s b w)
 sure:∀ w s,St w s->N<=w.heap.size->Calls prog fS #[.pointer (some ⟨E,0,none⟩)] w (avX sur w)
def iK {S:Type} (go:S->Nx) (s0:S) (sur:Option (List Int)):Nx:=fun l=>match sur with
 | some o=>some (o,0,l)
 | none=>go s0 l
theorem jQ.drop {a:Option Addr}(h:jQ w B nb (.slice a xs.length c) xs)(i:Nat) :
  ∀ b o,a=some ⟨b,o,none⟩->jQ w B nb (.slice (some ⟨b,o+i,none⟩) (xs.length - i) (c - i)) (xs.drop i):=by
 intro b o ha;obtain⟨a',c',hv,hc,hl,hx⟩:=h;simp only[gZ] at hv;obtain⟨rfl,_,rfl⟩:=hv;refine⟨some ⟨b,o+i,none⟩,c - i,by simp,by simp;omega,by simp;omega,fun hne=>?_⟩;have hne':xs≠[]:=by rintro rfl;simp at hne
 obtain⟨b',o',ha',hb,hn,hcell⟩:=hx hne';rw[ha] at ha';simp only[zX,bG] at ha';obtain⟨rfl,rfl,_⟩:=ha';refine⟨b,o+i,rfl,hb,hn,fun j x hj=>?_⟩;rw[yK] at hj;have:=hcell (i+j) x hj;rwa [<-vV] at this
theorem jQ.drop2 {b o:Nat}(h:jQ w B nb (.slice (some ⟨b,o,none⟩) xs.length c) xs)(i:Nat)(hi:i<=xs.length) :
  jQ w B nb (.slice (if c=i then some ⟨b,o,none⟩ else some ⟨b,o+i,none⟩) (xs.drop i).length (c - i)) (xs.drop i):=by
 by_cases e:c=i
 ·have hc:xs.length<=c:=by
   obtain⟨a',c',hv,hc,_⟩:=h;simp only[gZ] at hv;omega
  rw[zQ e,fY (by omega)];exact⟨_,_,rfl,by simp,by simp,fun h=>absurd rfl h⟩
 ·rw[xQ e,iN]
  exact h.drop i b o rfl
theorem jQ.gb (h:jQ w B E v xs)(hg:w.grownBy w' (some E)):jQ w' B E v xs:=by
 obtain⟨a,c,hv,hc,hl,hx⟩:=h;refine⟨a,c,hv,hc,hl,fun hne=>?_⟩;obtain⟨b,o,ha,hb,hn,hcell⟩:=hx hne;exact⟨b,o,ha,hb,hn,fun i x hi=>hg.cell (hcell i x hi) (by simpa using hn)⟩
theorem avZ (h:tY l=false){b:Int}(hb:l[i]? = some b):0<=b/\b<=1:=by
 have:=(List.any_eq_false.1 h) b (qX hb);simp at this;omega
theorem avJ (h:tY l=false)(i:Nat):tY (l.drop i)=false :=
 List.any_eq_false.2 fun b hb=>(List.any_eq_false.1 h) b (zE hb)
theorem Rv.gb (h:Rv w R s k)(hg:w.grownBy w' (some E))(hne:R≠E):Rv w' R s k :=
 have hn:some R≠some E:=by simpa using hne
 ⟨hg.cell (a:=⟨R,0,none⟩) h.c0 hn,hg.cell (a:=⟨R,1,none⟩) h.c1 hn,(jV (w:=w) (a:=⟨R,0,none⟩) (hg.block R h.lt hn)).trans h.f0,(jV (w:=w) (a:=⟨R,1,none⟩) (hg.block R h.lt hn)).trans h.f1,uX h.lt hg.size⟩
theorem Rv.put (h:Rv w R s k)(s':Value)(k':Int):Rv ((w.setCell ⟨R,0,none⟩ s').setCell ⟨R,1,none⟩ (.int .i64 k')) R s' k' :=
 ⟨by rw[gQ (by simp)];exact tZ h.c0,by refine tZ (u:=.int .i64 k) ?_;rw[gQ (by simp)];exact h.c1,by rw[zZ,zZ];exact h.f0,by rw[zZ,zZ];exact h.f1,by simpa using h.lt⟩
def cmX (B E:Nat) {S:Type} (St:World->S->Prop) (nx:Nx) (s0:S) (bits:List Int) (w:World) (e:Ending) (w':World):Prop :=
 w.grownBy w' (some E) /\
  ((nx bits=none/\e=.returned (.tuple #[gK,.slice none 0 0,.bool false])) \/
   (∃ a c o k a' c' j,nx bits=some (o,k,bits.drop j)/\e=.returned (.tuple #[.agg #[.slice a (o:List Int).length c,.int .i64 k],.slice a' (bits.drop j).length c',.bool true]) /\
    (∀ m,m<w.heap.size->jQ w' w'.heap.size m (.slice a o.length c) o)/\jQ w' B E (.slice a' (bits.drop j).length c') (bits.drop j)/\St w' s0))
