import Derived.Test.YtdceajgpolckiaaGreatDoorQs12
open Go.Proofs.Tryz
set_option linter.unusedSimpArgs false
set_option maxHeartbeats 16000000
set_option maxRecDepth 100000
namespace Go.Proofs.YtdceajgpolckiaaGreatDoor
section
open Go.RowKit Ds
theorem xQ.away {w:World}{B nb m:Nat}{s:Value}{xs:List Int}(h:xQ w B nb s xs)(hx:xs≠[]->∀ b o sp n c,s=.slice (some ⟨b,o,sp⟩) n c->b≠m):xQ w B m s xs:=by
 obtain⟨a,c,hv,hc,hl,hy⟩:=h;refine⟨a,c,hv,hc,hl,fun hne=>?_⟩;obtain⟨b,o,ha,hb,_,hcell⟩:=hy hne;exact⟨b,o,ha,hb,hx hne b o none xs.length c (by rw[hv,ha]),hcell⟩
def rG (w:World) (B nb:Nat) (v:Value) (ts:List Tr):Prop :=
 ∃ a c,v=.slice a ts.length c/\ts.length<=c/\ts.length<=1073741824/\(∀ t∈ts,xQ w B nb t.1 t.2.1) /\
  (ts≠[]->∃ b o,a=some ⟨b,o,none⟩/\b<B/\b≠nb/\bG w b o ts)
theorem rG.parts {w:World}{nb:Nat}{v:Value}{ts:List Tr}(h:rG w w.heap.size nb v ts):pQ w w.heap.size v ts:=by
 obtain⟨a,c,hv,hc,hl,hi,hx⟩:=h;refine⟨a,c,hv,hc,hl,fun t ht=>(hi t ht).mono (jQ _) (.inr (jQ _)),fun hne=>?_⟩;obtain⟨b,o,ha,hb,_,hcell⟩:=hx hne;exact⟨b,o,ha,hb,hcell⟩
theorem rG.at2 {w w':World}{nb:Nat}{v:Value}{ts:List Tr}(h:rG w w.heap.size nb v ts)(hb:Below w.heap.size w w'):rG w' w'.heap.size nb v ts:=by
 obtain⟨a,c,hv,hc,hl,hi,hx⟩:=h;refine⟨a,c,hv,hc,hl,fun t ht=>(hi t ht).at2 hb,fun hne=>?_⟩;obtain⟨b,o,ha,hB,hn,hcell⟩:=hx hne;exact⟨b,o,ha,zX hB hb.size,hn,hcell.keep hb hB⟩
theorem bwZ {w:World}{lo m:Nat}{v:Value}{ts:List Tr}(h:sZ w lo v ts)(hf:mX lo ts)(hm:m<lo):rG w w.heap.size m v ts:=by
 rcases h with⟨rfl,rfl⟩|⟨b,o,c,rfl,hc,hl,hlo,hr,hi⟩
 ·exact⟨none,0,rfl,jQ _,by simp,by simp,fun h=>absurd rfl h⟩
 ·refine⟨_,c,rfl,hc,hl,fun t ht=>(hi t ht).away fun hne b o sp n c e=>?_,fun _=>⟨b,o,rfl,hr.lt,by omega,hr.cells⟩⟩
  have:=hf t ht hne b o sp n c e;omega
abbrev Dl:=Value × List Tr
def rI (w:World) (B:Nat) (v:Value) (ns:List Dl):Prop :=
 ∃ a c,v=.slice a ns.length c/\ns.length<=c/\ns.length<=1073741824/\(∀ n∈ns,pQ w B n.1 n.2) /\
  (ns≠[]->∃ b o,a=some ⟨b,o,none⟩/\b<B/\∀ i n,ns[i]? = some n->w.cell? ⟨b,o+i,none⟩=some n.1)
theorem rI.get {w wr:World}{B:Nat}{a:Option Addr}{n c:Nat}{ns:List Dl}(hp:rI w B (.slice a n c) ns)(hB:B<=w.heap.size)(hbl:Below w.heap.size w wr){i:Nat}(h:i<ns.length) :
  ∃ b o na nc us,a=some ⟨b,o,none⟩/\b<w.heap.size/\ns[i]? = some (.slice na us.length nc,us)/\wr.cell? ⟨b,o+i,none⟩=some (.slice na us.length nc)/\pQ wr B (.slice na us.length nc) us:=by
 obtain⟨a',c',hv,hc,hl,hi,hx⟩:=hp;simp only[eJ] at hv;obtain⟨rfl,rfl,rfl⟩:=hv;obtain⟨b,o,ha,hb,hcell⟩:=hx (ne_of_lt h);obtain⟨⟨s,us⟩,hs⟩:=lX h;have hI:=hi _ (vX hs);have hI2:=hI.at hB hbl;obtain⟨na,nc,he,_⟩:=hI;simp only at he;subst he;have hlt:b<w.heap.size:=by omega
 exact⟨b,o,na,nc,us,ha,hlt,hs,(hbl.cell (p:=⟨b,o+i,none⟩) hlt).trans (hcell i _ hs),hI2⟩
theorem xQ.grow2 {W w':World}{m m0:Nat}{s:Value}{xs:List Int}{row:Option Nat}(h:xQ W W.heap.size m s xs)(h0:xQ W W.heap.size m0 s xs)(hg:W.grownBy w' row)(hrow:∀ g,row=some g->m0=g):xQ w' w'.heap.size m s xs:=by
 obtain⟨a,c,hv,hc,hl,hx⟩:=h;obtain⟨a0,c0,hv0,_,_,hx0⟩:=h0;refine⟨a,c,hv,hc,hl,fun hne=>?_⟩;obtain⟨b,o,ha,hb,hn,hcell⟩:=hx hne;obtain⟨b0,o0,ha0,_,hn0,_⟩:=hx0 hne;rw[hv,ha,ha0] at hv0;simp only[eJ,sX,sD] at hv0;have hbb:=hv0.1.1;have:=hg.size;exact⟨b,o,ha,by omega,hn,fun i x hi=>hg.cell (hcell i x hi) fun e=>hn0 (by rw[<-hbb];exact(hrow b e.symm).symm)⟩
theorem rG.grow2 {W w':World}{m m0:Nat}{v:Value}{ts:List Tr}{row:Option Nat}(h:rG W W.heap.size m v ts)(h0:rG W W.heap.size m0 v ts)(hg:W.grownBy w' row)(hrow:∀ g,row=some g->m0=g):rG w' w'.heap.size m v ts:=by
 obtain⟨a,c,hv,hc,hl,hi,hx⟩:=h;obtain⟨a0,c0,hv0,_,_,hi0,hx0⟩:=h0;refine⟨a,c,hv,hc,hl,fun t ht=>(hi t ht).grow2 (hi0 t ht) hg hrow,fun hne=>?_⟩;obtain⟨b,o,ha,hb,hn,hcell⟩:=hx hne;obtain⟨b0,o0,ha0,_,hn0,_⟩:=hx0 hne;rw[hv,ha,ha0] at hv0;simp only[eJ,sX,sD] at hv0;have hbb:=hv0.1.1;have hne':some b≠row:=fun e=>hn0 (by rw[<-hbb];exact(hrow b e.symm).symm);have:=hg.size;exact⟨b,o,ha,by omega,hn,fun i t ht=>⟨hg.cell (hcell i t ht).1 hne',hg.cell (hcell i t ht).2 hne'⟩⟩
def zJ (w:World) (h:Nat) (v:Value) (zs:List Dz):Prop :=
 ∃ a c,v=.slice a zs.length c/\zs.length<=c/\zs.length<=1073741824/\(∀ z∈zs,∀ m,m<h->rG w w.heap.size m z.1 z.2) /\
  (zs≠[]->∃ b o,a=some ⟨b,o,none⟩/\h<=b/\b<w.heap.size/\∀ i z,zs[i]? = some z->w.cell? ⟨b,o+i,none⟩=some z.1)
theorem zJ.nil (w:World)(h:Nat):zJ w h (.slice none 0 0) []:=⟨none,0,rfl,jQ _,by simp,by simp,fun h=>absurd rfl h⟩
theorem zJ.keep {w w':World}{h:Nat}{v:Value}{zs:List Dz}(d:zJ w h v zs)(hb:Below w.heap.size w w'):zJ w' h v zs:=by
 obtain⟨a,c,hv,hc,hl,hi,hx⟩:=d;refine⟨a,c,hv,hc,hl,fun z hz m hm=>(hi z hz m hm).at2 hb,fun hne=>?_⟩;obtain⟨b,o,ha,h1,h2,hcell⟩:=hx hne;exact⟨b,o,ha,h1,zX h2 hb.size,fun i z hz=>(hb.cell (p:=⟨b,o+i,none⟩) h2).trans (hcell i z hz)⟩
theorem zJ.mono {w:World}{h h':Nat}{v:Value}{zs:List Dz}(d:zJ w h v zs)(hl:h'<=h):zJ w h' v zs:=by
 obtain⟨a,c,hv,hc,hl',hi,hx⟩:=d;exact⟨a,c,hv,hc,hl',fun z hz m hm=>hi z hz m (by omega),fun hne=>let ⟨b,o,ha,h1,h2⟩:=hx hne;⟨b,o,ha,by omega,h2⟩⟩
theorem zJ.dss {w:World}{h:Nat}{v:Value}{zs:List Dz}(d:zJ w h v zs)(h0:0<h):rI w w.heap.size v zs:=by
 obtain⟨a,c,hv,hc,hl,hi,hx⟩:=d;exact⟨a,c,hv,hc,hl,fun z hz=>(hi z hz 0 h0).parts,fun hne=>let ⟨b,o,ha,_,h2,h3⟩:=hx hne;⟨b,o,ha,h2,h3⟩⟩
theorem zJ.set {w:World}{h g k:Nat}{v x:Value}{zs:List Dz}(d:zJ w h v zs)(hg:g<h):zJ (w.setCell ⟨g,k,none⟩ x) h v zs:=by
 obtain⟨a,c,hv,hc,hl,hi,hx⟩:=d;refine⟨a,c,hv,hc,hl,fun z hz m hm=>(hi z hz m hm).grow2 (hi z hz g hg) (rK w g k x) (fun g' e=>by simpa using e),fun hne=>?_⟩;obtain⟨b,o,ha,h1,h2,hcell⟩:=hx hne;exact⟨b,o,ha,h1,by simpa using h2,fun i z hz=>(rK w g k x).cell (hcell i z hz) (by simp;omega)⟩
theorem aT.dssA {w:World}{h:Nat}{v:Value}{zs:List Dz}(d:aT w h v zs):zJ w h v zs:=by
 rcases d with⟨rfl,rfl⟩|⟨g,cap,lo,rfl,h1,h2,hr,hg,hlo⟩
 ·exact zJ.nil w h
 ·exact⟨_,cap,rfl,h1,by omega,fun z hz m hm=>bwZ (hr.el z hz).1 (hr.el z hz).2 (by omega),fun _=>⟨g,0,rfl,hg,hr.lt,fun i z hz=>by rw[oX];exact hr.cell i z hz⟩⟩
def cjJ (l:List Pt) (bits:List Int) (w:World) (e:Ending) (w':World):Prop :=
 Below w.heap.size w w'/\((nV l bits=none/\e=.returned (.tuple #[pF,.bool false])) \/
  (∃ a c o k r,nV l bits=some (o,k,r)/\e=.returned (.tuple #[.agg #[.slice a (o:List Int).length c,.int .i64 k],.bool true])/\∀ m,m<w.heap.size->xQ w' w'.heap.size m (.slice a o.length c) o))
theorem ckQ (B nb:Nat)(v u:Value)(ts:List Tr)(bits:List Int)(w:World)(hB:B<=w.heap.size)(hp:pQ w B v ts)(hv:xQ w B nb u bits)(hbad:tJ bits=false)(hlen:bits.length<=65536)(ho:qY (rd ts)=(rd ts,0)) :
  Calls prog 100 #[v,u] w (cjJ (rd ts) bits w):=by
 have HV:Hid (xQ w B nb u bits):=hv;have HBad:Hid (tJ bits=false):=hbad;have hDis:=(aO ho).2;have hb0:Below w.heap.size w (w.alloc (.cells #[.slice none 0 0,.int .i64 0] 197)):=ba _ _;have kn:=fO B v ts (w.alloc (.cells #[.slice none 0 0,.int .i64 0] 197)) (by simp;omega) (hp.at hB hb0) (rd ts) 0 ho;have HR0:Hid (Rv (w.alloc (.cells #[.slice none 0 0,.int .i64 0] 197)) w.heap.size (.slice none 0 0) 0):=Rv.new _ _ _ _ _ rfl;have HDis:Hid (Dis (rd ts)):=hDis;obtain⟨pa,pc,rfl,_⟩:=hp;obtain⟨a,c,rfl,hc,hl,_⟩:=hv;clear hbad hb0 ho hDis;go_enter func100,ntmps100;go_wp2_with fail;refine kn.mono ?_;rintro e w1 ⟨hb1,⟨h0,_⟩|⟨_,E,ra,rc,us,rfl,h1,h2,h3,h4⟩⟩
 ·exact absurd rfl h0
 have hz1:w.heap.size+1<=w1.heap.size:=by simpa using hb1.size
 have hE:w.heap.size+1<=E:=by simpa using h4
 rw[<-h1] at h2;have hDu:Dis (rd us):=by rw[h1];exact HDis.out
 have D:=iW w1.heap.size E ra rc us hDu h2.lt;have HD:Hid (Drw w1.heap.size E 160 159 (nA w1.heap.size E ra rc us) (aD (rd us)) (fun s=>s.2.1) (0,0,1) (iA (rd us))):=D;have hS:nA w1.heap.size E ra rc us w1 (0,0,1):=nA.start hDu h2 h3;have HS:Hid (nA w1.heap.size E ra rc us w1 (0,0,1)):=hS;have HN:Hid (uD (aD (rd us)) (0,0,1) (iA (rd us))=nV (rd ts)):=by rw[Hid,gW,h1]
 have HR:Hid (Rv w1 w.heap.size (.slice none 0 0) 0):=HR0.out.below hb1;have HB1:Hid (Below w.heap.size w w1):=bt (ba _ _) hb1;have hElt:=h2.lt;have kc:=D.sure w1 (0,0,1) hS (jQ _);clear kn h1 h2 h3 h4 hDu D hS HR0 hb1;go_wp2_with fail;refine kc.mono ?_;rintro e w2 ⟨hb2,hs0,hs1⟩;have hz2:=hb2.size;have HR2:Hid (Rv w2 w.heap.size (.slice none 0 0) 0):=HR.out.below hb2;have HB2:Hid (Below w.heap.size w w2):=bt HB1.out hb2;cases hsur:iA (rd us) with
 | some o =>
  obtain⟨sa,sc,rfl,hI⟩:=hs1 o hsur;have HI:Hid (∀ m,m<w.heap.size+1->xQ w2 w2.heap.size m (.slice sa o.length sc) o):=fun m hm=>hI m (by omega);have HNS:Hid (nV (rd ts) bits=some (o,0,bits)):=by rw[Hid,<-HN.out];simp only[uD,hsur]
  clear hs0 hs1 hI kc hsur;obtain⟨r0,r1,r2,r3,r4⟩:=HR2.out;have ne1:¬ w.heap.size=w2.heap.size:=by omega
  go_wp2;generalize hX:((w2.setCell ⟨w.heap.size,0,none⟩ (.slice sa o.length sc)).setCell ⟨w.heap.size,1,none⟩ (.int .i64 0)).alloc (.cells #[.slice sa o.length sc,.int .i64 0] 197)=X;have hbX:Below w.heap.size w X:=hX▸bal (bs (bs HB2.out (p:=⟨w.heap.size,0,none⟩) (jQ _) _) (p:=⟨w.heap.size,1,none⟩) (jQ _) _) _;have HRX:Rv X w.heap.size (.slice sa o.length sc) 0:=hX▸((HR2.out.put _ _).alloc _)
  have HIX:Hid (∀ m,m<w.heap.size+1->xQ X X.heap.size m (.slice sa o.length sc) o):=by
   have h1:=xQ.setm (xQ.setm HI.out w.heap.size 0 (by omega) (.slice sa o.length sc)) w.heap.size 1 (by omega) (.int .i64 0);intro m hm;have h2:=h1 m hm;rw[show w2.heap.size=((w2.setCell ⟨w.heap.size,0,none⟩ (.slice sa o.length sc)).setCell ⟨w.heap.size,1,none⟩ (.int .i64 0)).heap.size by simp] at h2;rw[<-hX];exact(h2.keep (ba _ _)).mono (by simp) (.inl rfl)
  clear hX;obtain⟨x0,x1,_,_,_⟩:=HRX;exact yQ (v:=.tuple #[.agg #[.slice sa o.length sc,.int .i64 0],.bool true]) (by simp[results,results100,go_sem,x0,x1]) rfl ⟨hbX,.inr ⟨sa,sc,o,0,bits,HNS.out,rfl,fun m hm=>HIX.out m (by omega)⟩⟩
 | none =>
  have he:=hs0 hsur;subst he;have HGO:Hid (aD (rd us) (0,0,1) bits=nV (rd ts) bits):=by rw[Hid,<-HN.out];simp only[uD,hsur]
  have HSU:Hid (iA (rd us)=none):=hsur;have HS2:Hid (nA w1.heap.size E ra rc us w2 (0,0,1)):=HD.out.keep HS.out hb2 (jQ _);clear hs0 hs1 kc hsur;obtain⟨r0,r1,r2,r3,r4⟩:=HR2.out;go_wp2;generalize hX:w2.alloc (.cells #[.slice none 0 0,.int .i64 0] 197)=X;have hbX:Below w.heap.size w X:=hX▸bal HB2.out _;have HRX:Hid (Rv X w.heap.size (.slice none 0 0) 0):=hX▸HR2.out.alloc _;have HSX:Hid (nA w1.heap.size E ra rc us X (0,0,1)):=hX▸HD.out.keep HS2.out ((ba _ _).mono hz2) hz2;have hzX:w1.heap.size<=X.heap.size:=by rw[<-hX];simp;omega
  clear hX hb2 r0 r1 r2 r3 r4
  go_loopw [28] (fun iv wr=>∃ (i:Nat) (s:Int × Int × Int),iv=.int .i64 (i:Int)/\i<=bits.length/\Hid (nA w1.heap.size E ra rc us wr s/\s.2.1=i/\nV (rd ts) bits=aD (rd us) s (bits.drop i))/\Hid (Below w.heap.size w wr/\w1.heap.size<=wr.heap.size)/\Hid (Rv wr w.heap.size (.slice none 0 0) 0)) (fun iv _=>bits.length - (intOf iv).toNat)
  case atStart=>exact⟨0,(0,0,1),rfl,mQ _,⟨HSX.out,rfl,by rw[<-HGO.out];simp⟩,⟨hbX,hzX⟩,HRX⟩
  case round =>
   obtain⟨i,s,rfl,hit,HI,HG,HR⟩:=hrel;have hz:w.heap.size+1<=wr.heap.size:=HR.out.lt;by_cases h1:i<bits.length
   ·obtain⟨b,hb⟩:=lX h1
    have HB:Hid (bits[i]? = some b):=hb;have HVr:Hid (xQ wr B nb (.slice a bits.length c) bits):=HV.out.at hB HG.out.1;obtain⟨_,_,hv',_,_,hx⟩:=HVr.out;simp only[eJ] at hv';obtain⟨rfl,-,rfl⟩:=hv';obtain⟨bb,bo,rfl,hbB,hbE,hcell⟩:=hx (ne_of_lt h1);have c1:=hcell i b hb;have hbit:=jW HBad.out hb;have kc:=HD.out.feed HSU.out wr s b HI.out.1 HG.out.2 hbit (by simp only[HI.out.2.1];omega);clear hb hx hcell;go_wp2_with fail;refine kc.mono ?_;rintro e w4 ⟨hg2,⟨rfl,s',h2,h3,h4⟩|⟨ya,yc,o,rfl,h2,h3,h4⟩⟩
    ·have HI2:Hid (nA w1.heap.size E ra rc us w4 s'/\s'.2.1=(i+1:Nat)/\nV (rd ts) bits=aD (rd us) s' (bits.drop (i+1))):=⟨h2,by simp only at h3;rw[h3,HI.out.2.1];omega,by
      rw[HI.out.2.2,zV h1,<-h4];have:=(gQ.1 HB.out).2;rw[this]⟩
     have HR4:Hid (Rv w4 w.heap.size (.slice none 0 0) 0):=HR.out.gb hg2 (by omega);have HB4:Hid (Below w.heap.size w w4):=HG.out.1.trans (cG hg2 (by omega) (by omega));have hz4:wr.heap.size<=w4.heap.size:=hg2.size;have hg1:=HG.out.2;clear kc h2 h3 h4 hg2 HI HG HR;obtain⟨r0,r1,r2,r3,r4⟩:=HR4.out;go_wp2
     go_roundw
     case rel=>exact⟨i+1,s',by go_num,h1,⟨HD.out.keep HI2.out.1 ((ba _ _).mono (by omega)) (by omega),HI2.out.2⟩,⟨bal HB4.out _,by simp;omega⟩,HR4.out.alloc _⟩
     case measure=>simp[intOf];omega
    ·have hu:s.2.1=(i:Int):=HI.out.2.1
     simp only[hu] at h4 ⊢
     have HI2:Hid (nV (rd ts) bits=some (o,(i:Int)+1,bits.drop (i+1))):=by
      have:=(gQ.1 HB.out).2;rw[Hid,HI.out.2.2,zV h1,this,h4]
     have HR4:Hid (Rv w4 w.heap.size (.slice none 0 0) 0):=HR.out.gb hg2 (by omega);have HB4:Hid (Below w.heap.size w w4):=HG.out.1.trans (cG hg2 (by omega) (by omega));have hz4:wr.heap.size<=w4.heap.size:=hg2.size;have HO:Hid (∀ m,m<wr.heap.size->xQ w4 w4.heap.size m (.slice ya o.length yc) o):=h2;clear kc h2 h3 h4 hg2 HI HG HR hu;obtain⟨r0,r1,r2,r3,r4⟩:=HR4.out;have ne1:¬ w.heap.size=w4.heap.size:=by omega
     have ne2:¬ w4.heap.size=w.heap.size:=by omega
     go_wp2;generalize hX:((w4.setCell ⟨w.heap.size,0,none⟩ (.slice ya o.length yc)).setCell ⟨w.heap.size,1,none⟩ (.int .i64 ((i:Int)+1))).alloc (.cells #[.slice ya o.length yc,.int .i64 ((i:Int)+1)] 197)=X;have hbX:Below w.heap.size w X:=hX▸bal (bs (bs HB4.out (p:=⟨w.heap.size,0,none⟩) (jQ _) _) (p:=⟨w.heap.size,1,none⟩) (jQ _) _) _;have HRX:Rv X w.heap.size (.slice ya o.length yc) ((i:Int)+1):=hX▸((HR4.out.put _ _).alloc _)
     have HIX:Hid (∀ m,m<w.heap.size+1->xQ X X.heap.size m (.slice ya o.length yc) o):=by
      have h1:=xQ.setm (xQ.setm (fun m hm=>HO.out m (by omega)) w.heap.size 0 (show w.heap.size<w.heap.size+1 by omega) (.slice ya o.length yc)) w.heap.size 1 (by omega) (.int .i64 ((i:Int)+1));intro m hm;have h2:=h1 m hm;rw[show w4.heap.size=((w4.setCell ⟨w.heap.size,0,none⟩ (.slice ya o.length yc)).setCell ⟨w.heap.size,1,none⟩ (.int .i64 ((i:Int)+1))).heap.size by simp] at h2;rw[<-hX];exact(h2.keep (ba _ _)).mono (by simp) (.inl rfl)
     clear hX;obtain⟨x0,x1,_,_,_⟩:=HRX
     exact yQ (v:=.tuple #[.agg #[.slice ya o.length yc,.int .i64 ((i:Int)+1)],.bool true]) (by simp[results,results100,go_sem,x0,x1]) rfl
      ⟨hbX,.inr ⟨ya,yc,o,_,_,HI2.out,rfl,fun m hm=>HIX.out m (by omega)⟩⟩
   ·have HI2:Hid (nV (rd ts) bits=none):=by rw[Hid,HI.out.2.2,uA (by omega),HD.out.nil]
    have HR2:=HR.out.put (.slice none 0 0) 0;obtain⟨r0,r1,r2,r3,r4⟩:=HR.out;obtain⟨x0,x1,_,_,_⟩:=HR2;go_wp2
    exact yQ (v:=.tuple #[pF,.bool false]) (by simp[results,results100,go_sem,x0,x1]) rfl
     ⟨bs (bs HG.out.1 (p:=⟨w.heap.size,0,none⟩) (jQ _) _) (p:=⟨w.heap.size,1,none⟩) (jQ _) _,.inl ⟨HI2.out,rfl⟩⟩
