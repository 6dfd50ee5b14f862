import Derived.Test.YtdceajgpolckiaaGreatDoorQq12
open Go.Proofs.Tryz
set_option linter.unusedSimpArgs false
set_option maxHeartbeats 16000000
set_option maxRecDepth 100000
namespace Go.Proofs.YtdceajgpolckiaaGreatDoor
section
open Go.RowKit Ds
theorem zQ.away {w:World}{B nb m:Nat}{s:Value}{xs:List Int}(h:zQ w B nb s xs)(hx:xs≠[]->∀ b o sp n c,s=.slice (some ⟨b,o,sp⟩) n c->b≠m):zQ w B m s xs:=by
 obtain⟨a,c,hv,hc,hl,hy⟩:=h;refine⟨a,c,hv,hc,hl,fun hne=>?_⟩;obtain⟨b,o,ha,hb,_,hcell⟩:=hy hne;exact⟨b,o,ha,hb,hx hne b o none xs.length c (by rw[hv,ha]),hcell⟩
def oD (w:World) (B nb:Nat) (v:Value) (ts:List Tr):Prop :=
 ∃ a c,v=.slice a ts.length c/\ts.length<=c/\ts.length<=1073741824/\(∀ t∈ts,zQ w B nb t.1 t.2.1) /\
  (ts≠[]->∃ b o,a=some ⟨b,o,none⟩/\b<B/\b≠nb/\jD w b o ts)
theorem oD.parts {w:World}{nb:Nat}{v:Value}{ts:List Tr}(h:oD w w.heap.size nb v ts):xX w w.heap.size v ts:=by
 obtain⟨a,c,hv,hc,hl,hi,hx⟩:=h;refine⟨a,c,hv,hc,hl,fun t ht=>(hi t ht).mono (vQ _) (.inr (vQ _)),fun hne=>?_⟩;obtain⟨b,o,ha,hb,_,hcell⟩:=hx hne;exact⟨b,o,ha,hb,hcell⟩
theorem oD.at2 {w w':World}{nb:Nat}{v:Value}{ts:List Tr}(h:oD w w.heap.size nb v ts)(hb:Below w.heap.size w w'):oD w' w'.heap.size nb v ts:=by
 obtain⟨a,c,hv,hc,hl,hi,hx⟩:=h;refine⟨a,c,hv,hc,hl,fun t ht=>(hi t ht).at2 hb,fun hne=>?_⟩;obtain⟨b,o,ha,hB,hn,hcell⟩:=hx hne;exact⟨b,o,ha,qX hB hb.size,hn,hcell.keep hb hB⟩
theorem b0J {w:World}{lo m:Nat}{v:Value}{ts:List Tr}(h:cJ w lo v ts)(hf:nX lo ts)(hm:m<lo):oD w w.heap.size m v ts:=by
 rcases h with⟨rfl,rfl⟩|⟨b,o,c,rfl,hc,hl,hlo,hr,hi⟩
 ·exact⟨none,0,rfl,vQ _,by simp,by simp,fun h=>absurd rfl h⟩
 ·refine⟨_,c,rfl,hc,hl,fun t ht=>(hi t ht).away fun hne b o sp n c e=>?_,fun _=>⟨b,o,rfl,hr.lt,by omega,hr.cells⟩⟩
  have:=hf t ht hne b o sp n c e;omega
abbrev Dl:=Value × List Tr
def gK (w:World) (B:Nat) (v:Value) (ns:List Dl):Prop :=
 ∃ a c,v=.slice a ns.length c/\ns.length<=c/\ns.length<=1073741824/\(∀ n∈ns,xX w B n.1 n.2) /\
  (ns≠[]->∃ b o,a=some ⟨b,o,none⟩/\b<B/\∀ i n,ns[i]? = some n->w.cell? ⟨b,o+i,none⟩=some n.1)
theorem gK.get {w wr:World}{B:Nat}{a:Option Addr}{n c:Nat}{ns:List Dl}(hp:gK w B (.slice a n c) ns)(hB:B<=w.heap.size)(hbl:Below w.heap.size w wr){i:Nat}(h:i<ns.length) :
  ∃ b o na nc us,a=some ⟨b,o,none⟩/\b<w.heap.size/\ns[i]? = some (.slice na us.length nc,us)/\wr.cell? ⟨b,o+i,none⟩=some (.slice na us.length nc)/\xX wr B (.slice na us.length nc) us:=by
 obtain⟨a',c',hv,hc,hl,hi,hx⟩:=hp;simp only[xV] at hv;obtain⟨rfl,rfl,rfl⟩:=hv;obtain⟨b,o,ha,hb,hcell⟩:=hx (ne_of_lt h);obtain⟨⟨s,us⟩,hs⟩:=wX h;have hI:=hi _ (uX hs);have hI2:=hI.at hB hbl;obtain⟨na,nc,he,_⟩:=hI;simp only at he;subst he;have hlt:b<w.heap.size:=by omega
 exact⟨b,o,na,nc,us,ha,hlt,hs,(hbl.cell (p:=⟨b,o+i,none⟩) hlt).trans (hcell i _ hs),hI2⟩
theorem zQ.grow2 {W w':World}{m m0:Nat}{s:Value}{xs:List Int}{row:Option Nat}(h:zQ W W.heap.size m s xs)(h0:zQ W W.heap.size m0 s xs)(hg:W.grownBy w' row)(hrow:∀ g,row=some g->m0=g):zQ w' w'.heap.size m s xs:=by
 obtain⟨a,c,hv,hc,hl,hx⟩:=h;obtain⟨a0,c0,hv0,_,_,hx0⟩:=h0;refine⟨a,c,hv,hc,hl,fun hne=>?_⟩;obtain⟨b,o,ha,hb,hn,hcell⟩:=hx hne;obtain⟨b0,o0,ha0,_,hn0,_⟩:=hx0 hne;rw[hv,ha,ha0] at hv0;simp only[xV,vX,mF] at hv0;have hbb:=hv0.1.1;have:=hg.size;exact⟨b,o,ha,by omega,hn,fun i x hi=>hg.cell (hcell i x hi) fun e=>hn0 (by rw[<-hbb];exact(hrow b e.symm).symm)⟩
theorem oD.grow2 {W w':World}{m m0:Nat}{v:Value}{ts:List Tr}{row:Option Nat}(h:oD W W.heap.size m v ts)(h0:oD W W.heap.size m0 v ts)(hg:W.grownBy w' row)(hrow:∀ g,row=some g->m0=g):oD w' w'.heap.size m v ts:=by
 obtain⟨a,c,hv,hc,hl,hi,hx⟩:=h;obtain⟨a0,c0,hv0,_,_,hi0,hx0⟩:=h0;refine⟨a,c,hv,hc,hl,fun t ht=>(hi t ht).grow2 (hi0 t ht) hg hrow,fun hne=>?_⟩;obtain⟨b,o,ha,hb,hn,hcell⟩:=hx hne;obtain⟨b0,o0,ha0,_,hn0,_⟩:=hx0 hne;rw[hv,ha,ha0] at hv0;simp only[xV,vX,mF] at hv0;have hbb:=hv0.1.1;have hne':some b≠row:=fun e=>hn0 (by rw[<-hbb];exact(hrow b e.symm).symm);have:=hg.size;exact⟨b,o,ha,by omega,hn,fun i t ht=>⟨hg.cell (hcell i t ht).1 hne',hg.cell (hcell i t ht).2 hne'⟩⟩
def mJ (w:World) (h:Nat) (v:Value) (zs:List Dz):Prop :=
 ∃ a c,v=.slice a zs.length c/\zs.length<=c/\zs.length<=1073741824/\(∀ z∈zs,∀ m,m<h->oD w w.heap.size m z.1 z.2) /\
  (zs≠[]->∃ b o,a=some ⟨b,o,none⟩/\h<=b/\b<w.heap.size/\∀ i z,zs[i]? = some z->w.cell? ⟨b,o+i,none⟩=some z.1)
theorem mJ.nil (w:World)(h:Nat):mJ w h (.slice none 0 0) []:=⟨none,0,rfl,vQ _,by simp,by simp,fun h=>absurd rfl h⟩
theorem mJ.keep {w w':World}{h:Nat}{v:Value}{zs:List Dz}(d:mJ w h v zs)(hb:Below w.heap.size w w'):mJ w' h v zs:=by
 obtain⟨a,c,hv,hc,hl,hi,hx⟩:=d;refine⟨a,c,hv,hc,hl,fun z hz m hm=>(hi z hz m hm).at2 hb,fun hne=>?_⟩;obtain⟨b,o,ha,h1,h2,hcell⟩:=hx hne;exact⟨b,o,ha,h1,qX h2 hb.size,fun i z hz=>(hb.cell (p:=⟨b,o+i,none⟩) h2).trans (hcell i z hz)⟩
theorem mJ.mono {w:World}{h h':Nat}{v:Value}{zs:List Dz}(d:mJ w h v zs)(hl:h'<=h):mJ w h' v zs:=by
 obtain⟨a,c,hv,hc,hl',hi,hx⟩:=d;exact⟨a,c,hv,hc,hl',fun z hz m hm=>hi z hz m (by omega),fun hne=>let ⟨b,o,ha,h1,h2⟩:=hx hne;⟨b,o,ha,by omega,h2⟩⟩
theorem mJ.dss {w:World}{h:Nat}{v:Value}{zs:List Dz}(d:mJ w h v zs)(h0:0<h):gK w w.heap.size v zs:=by
 obtain⟨a,c,hv,hc,hl,hi,hx⟩:=d;exact⟨a,c,hv,hc,hl,fun z hz=>(hi z hz 0 h0).parts,fun hne=>let ⟨b,o,ha,_,h2,h3⟩:=hx hne;⟨b,o,ha,h2,h3⟩⟩
theorem mJ.set {w:World}{h g k:Nat}{v x:Value}{zs:List Dz}(d:mJ w h v zs)(hg:g<h):mJ (w.setCell ⟨g,k,none⟩ x) h v zs:=by
 obtain⟨a,c,hv,hc,hl,hi,hx⟩:=d;refine⟨a,c,hv,hc,hl,fun z hz m hm=>(hi z hz m hm).grow2 (hi z hz g hg) (oL w g k x) (fun g' e=>by simpa using e),fun hne=>?_⟩;obtain⟨b,o,ha,h1,h2,hcell⟩:=hx hne;exact⟨b,o,ha,h1,by simpa using h2,fun i z hz=>(oL w g k x).cell (hcell i z hz) (by simp;omega)⟩
theorem lT.dssA {w:World}{h:Nat}{v:Value}{zs:List Dz}(d:lT w h v zs):mJ w h v zs:=by
 rcases d with⟨rfl,rfl⟩|⟨g,cap,lo,rfl,h1,h2,hr,hg,hlo⟩
 ·exact mJ.nil w h
 ·exact⟨_,cap,rfl,h1,by omega,fun z hz m hm=>b0J (hr.el z hz).1 (hr.el z hz).2 (by omega),fun _=>⟨g,0,rfl,hg,hr.lt,fun i z hz=>by rw[jZ];exact hr.cell i z hz⟩⟩
def cnJ (l:List Pt) (bits:List Int) (w:World) (e:Ending) (w':World):Prop :=
 Below w.heap.size w w'/\((nU l bits=none/\e=.returned (.tuple #[nH,.bool false])) \/
  (∃ a c o k r,nU l bits=some (o,k,r)/\e=.returned (.tuple #[.agg #[.slice a (o:List Int).length c,.int .i64 k],.bool true])/\∀ m,m<w.heap.size->zQ w' w'.heap.size m (.slice a o.length c) o))
theorem coQ (B nb:Nat)(v u:Value)(ts:List Tr)(bits:List Int)(w:World)(hB:B<=w.heap.size)(hp:xX w B v ts)(hv:zQ w B nb u bits)(hbad:dY bits=false)(hlen:bits.length<=65536)(ho:bU (rd ts)=(rd ts,0)) :
  Calls prog 100 #[v,u] w (cnJ (rd ts) bits w):=by
 have HV:Hid (zQ w B nb u bits):=hv;have HBad:Hid (dY bits=false):=hbad;have hDis:=(yT ho).2;have hb0:Below w.heap.size w (w.alloc (.cells #[.slice none 0 0,.int .i64 0] 197)):=ba _ _;have kn:=jP B v ts (w.alloc (.cells #[.slice none 0 0,.int .i64 0] 197)) (by simp;omega) (hp.at hB hb0) (rd ts) 0 ho;have HR0:Hid (Rv (w.alloc (.cells #[.slice none 0 0,.int .i64 0] 197)) w.heap.size (.slice none 0 0) 0):=Rv.new _ _ _ _ _ rfl;have HDis:Hid (Dis (rd ts)):=hDis;obtain⟨pa,pc,rfl,_⟩:=hp;obtain⟨a,c,rfl,hc,hl,_⟩:=hv;clear hbad hb0 ho hDis;go_enter func100,ntmps100;go_wp2_with fail;refine kn.mono ?_;rintro e w1 ⟨hb1,⟨h0,_⟩|⟨_,E,ra,rc,us,rfl,h1,h2,h3,h4⟩⟩
 ·exact absurd rfl h0
 have hz1:w.heap.size+1<=w1.heap.size:=by simpa using hb1.size
 have hE:w.heap.size+1<=E:=by simpa using h4
 rw[<-h1] at h2;have hDu:Dis (rd us):=by rw[h1];exact HDis.out
 have D:=rW w1.heap.size E ra rc us hDu h2.lt;have HD:Hid (Drw w1.heap.size E 160 159 (kG w1.heap.size E ra rc us) (yF (rd us)) (fun s=>s.2.1) (0,0,1) (gG (rd us))):=D;have hS:kG w1.heap.size E ra rc us w1 (0,0,1):=kG.start hDu h2 h3;have HS:Hid (kG w1.heap.size E ra rc us w1 (0,0,1)):=hS;have HN:Hid (vF (yF (rd us)) (0,0,1) (gG (rd us))=nU (rd ts)):=by rw[Hid,pW,h1]
 have HR:Hid (Rv w1 w.heap.size (.slice none 0 0) 0):=HR0.out.below hb1;have HB1:Hid (Below w.heap.size w w1):=bt (ba _ _) hb1;have hElt:=h2.lt;have kc:=D.sure w1 (0,0,1) hS (vQ _);clear kn h1 h2 h3 h4 hDu D hS HR0 hb1;go_wp2_with fail;refine kc.mono ?_;rintro e w2 ⟨hb2,hs0,hs1⟩;have hz2:=hb2.size;have HR2:Hid (Rv w2 w.heap.size (.slice none 0 0) 0):=HR.out.below hb2;have HB2:Hid (Below w.heap.size w w2):=bt HB1.out hb2;cases hsur:gG (rd us) with
 | some o =>
  obtain⟨sa,sc,rfl,hI⟩:=hs1 o hsur;have HI:Hid (∀ m,m<w.heap.size+1->zQ w2 w2.heap.size m (.slice sa o.length sc) o):=fun m hm=>hI m (by omega);have HNS:Hid (nU (rd ts) bits=some (o,0,bits)):=by rw[Hid,<-HN.out];simp only[vF,hsur]
  clear hs0 hs1 hI kc hsur;obtain⟨r0,r1,r2,r3,r4⟩:=HR2.out;have ne1:¬ w.heap.size=w2.heap.size:=by omega
  go_wp2;generalize hX:((w2.setCell ⟨w.heap.size,0,none⟩ (.slice sa o.length sc)).setCell ⟨w.heap.size,1,none⟩ (.int .i64 0)).alloc (.cells #[.slice sa o.length sc,.int .i64 0] 197)=X;have hbX:Below w.heap.size w X:=hX▸bal (bs (bs HB2.out (p:=⟨w.heap.size,0,none⟩) (vQ _) _) (p:=⟨w.heap.size,1,none⟩) (vQ _) _) _;have HRX:Rv X w.heap.size (.slice sa o.length sc) 0:=hX▸((HR2.out.put _ _).alloc _)
  have HIX:Hid (∀ m,m<w.heap.size+1->zQ X X.heap.size m (.slice sa o.length sc) o):=by
   have h1:=zQ.setm (zQ.setm HI.out w.heap.size 0 (by omega) (.slice sa o.length sc)) w.heap.size 1 (by omega) (.int .i64 0);intro m hm;have h2:=h1 m hm;rw[show w2.heap.size=((w2.setCell ⟨w.heap.size,0,none⟩ (.slice sa o.length sc)).setCell ⟨w.heap.size,1,none⟩ (.int .i64 0)).heap.size by simp] at h2;rw[<-hX];exact(h2.keep (ba _ _)).mono (by simp) (.inl rfl)
  clear hX;obtain⟨x0,x1,_,_,_⟩:=HRX;exact yQ (v:=.tuple #[.agg #[.slice sa o.length sc,.int .i64 0],.bool true]) (by simp[results,results100,go_sem,x0,x1]) rfl ⟨hbX,.inr ⟨sa,sc,o,0,bits,HNS.out,rfl,fun m hm=>HIX.out m (by omega)⟩⟩
 | none =>
  have he:=hs0 hsur;subst he;have HGO:Hid (yF (rd us) (0,0,1) bits=nU (rd ts) bits):=by rw[Hid,<-HN.out];simp only[vF,hsur]
  have HSU:Hid (gG (rd us)=none):=hsur;have HS2:Hid (kG w1.heap.size E ra rc us w2 (0,0,1)):=HD.out.keep HS.out hb2 (vQ _);clear hs0 hs1 kc hsur;obtain⟨r0,r1,r2,r3,r4⟩:=HR2.out;go_wp2;generalize hX:w2.alloc (.cells #[.slice none 0 0,.int .i64 0] 197)=X;have hbX:Below w.heap.size w X:=hX▸bal HB2.out _;have HRX:Hid (Rv X w.heap.size (.slice none 0 0) 0):=hX▸HR2.out.alloc _;have HSX:Hid (kG w1.heap.size E ra rc us X (0,0,1)):=hX▸HD.out.keep HS2.out ((ba _ _).mono hz2) hz2;have hzX:w1.heap.size<=X.heap.size:=by rw[<-hX];simp;omega
  clear hX hb2 r0 r1 r2 r3 r4
  go_loopw [28] (fun iv wr=>∃ (i:Nat) (s:Int × Int × Int),iv=.int .i64 (i:Int)/\i<=bits.length/\Hid (kG w1.heap.size E ra rc us wr s/\s.2.1=i/\nU (rd ts) bits=yF (rd us) s (bits.drop i))/\Hid (Below w.heap.size w wr/\w1.heap.size<=wr.heap.size)/\Hid (Rv wr w.heap.size (.slice none 0 0) 0)) (fun iv _=>bits.length - (intOf iv).toNat)
  case atStart=>exact⟨0,(0,0,1),rfl,nQ _,⟨HSX.out,rfl,by rw[<-HGO.out];simp⟩,⟨hbX,hzX⟩,HRX⟩
  case round =>
   obtain⟨i,s,rfl,hit,HI,HG,HR⟩:=hrel;have hz:w.heap.size+1<=wr.heap.size:=HR.out.lt;by_cases h1:i<bits.length
   ·obtain⟨b,hb⟩:=wX h1
    have HB:Hid (bits[i]? = some b):=hb;have HVr:Hid (zQ wr B nb (.slice a bits.length c) bits):=HV.out.at hB HG.out.1;obtain⟨_,_,hv',_,_,hx⟩:=HVr.out;simp only[xV] at hv';obtain⟨rfl,-,rfl⟩:=hv';obtain⟨bb,bo,rfl,hbB,hbE,hcell⟩:=hx (ne_of_lt h1);have c1:=hcell i b hb;have hbit:=bW HBad.out hb;have kc:=HD.out.feed HSU.out wr s b HI.out.1 HG.out.2 hbit (by simp only[HI.out.2.1];omega);clear hb hx hcell;go_wp2_with fail;refine kc.mono ?_;rintro e w4 ⟨hg2,⟨rfl,s',h2,h3,h4⟩|⟨ya,yc,o,rfl,h2,h3,h4⟩⟩
    ·have HI2:Hid (kG w1.heap.size E ra rc us w4 s'/\s'.2.1=(i+1:Nat)/\nU (rd ts) bits=yF (rd us) s' (bits.drop (i+1))):=⟨h2,by simp only at h3;rw[h3,HI.out.2.1];omega,by
      rw[HI.out.2.2,zU h1,<-h4];have:=(lQ.1 HB.out).2;rw[this]⟩
     have HR4:Hid (Rv w4 w.heap.size (.slice none 0 0) 0):=HR.out.gb hg2 (by omega);have HB4:Hid (Below w.heap.size w w4):=HG.out.1.trans (iD hg2 (by omega) (by omega));have hz4:wr.heap.size<=w4.heap.size:=hg2.size;have hg1:=HG.out.2;clear kc h2 h3 h4 hg2 HI HG HR;obtain⟨r0,r1,r2,r3,r4⟩:=HR4.out;go_wp2
     go_roundw
     case rel=>exact⟨i+1,s',by go_num,h1,⟨HD.out.keep HI2.out.1 ((ba _ _).mono (by omega)) (by omega),HI2.out.2⟩,⟨bal HB4.out _,by simp;omega⟩,HR4.out.alloc _⟩
     case measure=>simp[intOf];omega
    ·have hu:s.2.1=(i:Int):=HI.out.2.1
     simp only[hu] at h4 ⊢
     have HI2:Hid (nU (rd ts) bits=some (o,(i:Int)+1,bits.drop (i+1))):=by
      have:=(lQ.1 HB.out).2;rw[Hid,HI.out.2.2,zU h1,this,h4]
     have HR4:Hid (Rv w4 w.heap.size (.slice none 0 0) 0):=HR.out.gb hg2 (by omega);have HB4:Hid (Below w.heap.size w w4):=HG.out.1.trans (iD hg2 (by omega) (by omega));have hz4:wr.heap.size<=w4.heap.size:=hg2.size;have HO:Hid (∀ m,m<wr.heap.size->zQ w4 w4.heap.size m (.slice ya o.length yc) o):=h2;clear kc h2 h3 h4 hg2 HI HG HR hu;obtain⟨r0,r1,r2,r3,r4⟩:=HR4.out;have ne1:¬ w.heap.size=w4.heap.size:=by omega
     have ne2:¬ w4.heap.size=w.heap.size:=by omega
     go_wp2;generalize hX:((w4.setCell ⟨w.heap.size,0,none⟩ (.slice ya o.length yc)).setCell ⟨w.heap.size,1,none⟩ (.int .i64 ((i:Int)+1))).alloc (.cells #[.slice ya o.length yc,.int .i64 ((i:Int)+1)] 197)=X;have hbX:Below w.heap.size w X:=hX▸bal (bs (bs HB4.out (p:=⟨w.heap.size,0,none⟩) (vQ _) _) (p:=⟨w.heap.size,1,none⟩) (vQ _) _) _;have HRX:Rv X w.heap.size (.slice ya o.length yc) ((i:Int)+1):=hX▸((HR4.out.put _ _).alloc _)
     have HIX:Hid (∀ m,m<w.heap.size+1->zQ X X.heap.size m (.slice ya o.length yc) o):=by
      have h1:=zQ.setm (zQ.setm (fun m hm=>HO.out m (by omega)) w.heap.size 0 (show w.heap.size<w.heap.size+1 by omega) (.slice ya o.length yc)) w.heap.size 1 (by omega) (.int .i64 ((i:Int)+1));intro m hm;have h2:=h1 m hm;rw[show w4.heap.size=((w4.setCell ⟨w.heap.size,0,none⟩ (.slice ya o.length yc)).setCell ⟨w.heap.size,1,none⟩ (.int .i64 ((i:Int)+1))).heap.size by simp] at h2;rw[<-hX];exact(h2.keep (ba _ _)).mono (by simp) (.inl rfl)
     clear hX;obtain⟨x0,x1,_,_,_⟩:=HRX
     exact yQ (v:=.tuple #[.agg #[.slice ya o.length yc,.int .i64 ((i:Int)+1)],.bool true]) (by simp[results,results100,go_sem,x0,x1]) rfl
      ⟨hbX,.inr ⟨ya,yc,o,_,_,HI2.out,rfl,fun m hm=>HIX.out m (by omega)⟩⟩
   ·have HI2:Hid (nU (rd ts) bits=none):=by rw[Hid,HI.out.2.2,qD (by omega),HD.out.nil]
    have HR2:=HR.out.put (.slice none 0 0) 0;obtain⟨r0,r1,r2,r3,r4⟩:=HR.out;obtain⟨x0,x1,_,_,_⟩:=HR2;go_wp2
    exact yQ (v:=.tuple #[nH,.bool false]) (by simp[results,results100,go_sem,x0,x1]) rfl
     ⟨bs (bs HG.out.1 (p:=⟨w.heap.size,0,none⟩) (vQ _) _) (p:=⟨w.heap.size,1,none⟩) (vQ _) _,.inl ⟨HI2.out,rfl⟩⟩
