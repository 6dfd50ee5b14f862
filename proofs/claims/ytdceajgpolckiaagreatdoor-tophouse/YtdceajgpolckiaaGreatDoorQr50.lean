import Derived.Test.YtdceajgpolckiaaGreatDoorQr49
open Go.Proofs.Tryz
set_option linter.unusedSimpArgs false
set_option maxHeartbeats 16000000
set_option maxRecDepth 100000
namespace Go.Proofs.YtdceajgpolckiaaGreatDoor
variable {w w':World} {N b h:Nat} {ts:List Value} {r:Option Nat}
section
open Go.RowKit Ds
open K.P (HSt xX yX wZ nV oZ)
def zH (w:World) (h:Nat) (ts bs:List Value):Prop:=Bx w h ts/\Bx w (h+1) bs
theorem zH.at {bs:List Value}(x:zH w h ts bs)(hb:Below w.heap.size w w'):zH w' h ts bs:=⟨x.1.at hb,x.2.at hb⟩
theorem zH.new (w:World)(ts bs:List Value):zH ((w.alloc (.cells ts.toArray 25)).alloc (.cells bs.toArray 32)) w.heap.size ts bs:=⟨(Bx.new w ts 25 rfl).at (ba _ _),Bx.new _ bs 32 (by simp)⟩
theorem b7X {cs:List Value}(h:Bx w b cs)(o:Nat)(ds:List Value)(hd:∀ j v,ds[j]? = some v->cs[o+j]? = some v):w.rangeAt b o ds:=fun j v hj=>(h (o+j) v (hd j v hj)).c
theorem fvJ:(prog.info? 3).map (fun i=>(i.zero,i.size,i.bytes))=some (some (.int .i64 0),1,8):=by kernel_rfl
theorem fwQ (xs:List Int):∀ u∈xs.map (Value.int .i64),u.oneCell' = true:=by
 intro u hu;obtain⟨x,_,rfl⟩:=tX.1 hu;rfl
theorem alJ {a b c:World}(h:Below N a b)(hN:N<=a.heap.size)(hg:b.grownBy c r)(hr:∀ k,r=some k->N<=k):Below N a c :=
 ⟨hg.os.trans h.os,hg.tape.trans h.tape,hg.output.trans h.output,bQ h.size hg.size,fun k hk=>(hg.block k (uX hk (by have:=h.size;exact bQ hN this)) (fun e=>by have:=hr k e.symm;omega)).trans (h.block k hk)⟩
theorem fwX (k0:Int)(k1:ByteArray)(k2 k3:Int)(q4:Option Addr)(m4 d4:Nat)(q5:Option Addr)(m5 d5:Nat)(tu td tlo thi:Int)(na:Option Addr)(nn nc:Nat):∀ z∈([.int .i64 k0,.string k1,.int .i64 k2,.int .i64 k3,.slice q4 m4 d4,.slice q5 m5 d5,.int .i64 tu,.int .i64 td,.int .i64 tlo,.int .i64 thi,.slice na nn nc]:List Value),z.oneCell' = true:=by
 intro z hz;simp only[fX,yF,uF] at hz;rcases hz with rfl|rfl|rfl|rfl|rfl|rfl|rfl|rfl|rfl|rfl|rfl <;> rfl
theorem fwZ (k0:Int)(k1:ByteArray)(k2 k3:Int)(q4:Option Addr)(m4 d4:Nat)(q5:Option Addr)(m5 d5:Nat)(tu td tlo thi:Int)(xa:Option Addr)(xn xc:Nat):∀ z∈([.string dV,.int .i64 k0,.string k1,.int .i64 k2,.int .i64 k3,.slice q4 m4 d4,.slice q5 m5 d5,.int .i64 tu,.int .i64 td,.int .i64 tlo,.int .i64 thi,.slice xa xn xc]:List Value),z.oneCell' = true:=by
 intro z hz;simp only[fX,yF,uF] at hz;rcases hz with rfl|rfl|rfl|rfl|rfl|rfl|rfl|rfl|rfl|rfl|rfl|rfl <;> rfl
theorem fwJ (e:Int)(ta:Option Addr)(tn tc:Nat)(us lu ld:Int)(xa:Option Addr)(xn xc:Nat):∀ z∈([.int .i64 e,.slice ta tn tc,.int .i64 us,.int .i64 lu,.int .i64 ld,.slice xa xn xc]:List Value),z.oneCell' = true:=by
 intro z hz;simp only[fX,yF,uF] at hz;rcases hz with rfl|rfl|rfl|rfl|rfl|rfl <;> rfl
theorem b7Z (w:World)(cs:List Value)(t:TypeId):∀ j u,cs[j]? = some u->(w.alloc (.cells cs.toArray t)).cell? ((⟨w.heap.size,0,none⟩:Addr).add j)=some u:=by
 intro j u hj;have e:(⟨w.heap.size,0,none⟩:Addr).add j=⟨w.heap.size,j,none⟩:=by unfold Addr.add;split <;> simp_all
 rw[e];exact(Bx.new w cs t rfl j u hj).c
theorem b7J (ss:List Stv):∀ u∈sfl ss,u.oneCell' = true:=by
 intro u hu;obtain⟨t,_,hu⟩:=nN.1 hu;exact t.one u hu
theorem bP {cs:List Value}(h:Bx w b cs)(hg:w.grownBy w' r)(hr:r≠some b):Bx w' b cs:=fun k v hk=>by
 have hb:w'.heap[b]? = w.heap[b]?:=hg.block b (h k v hk).lt (fun e=>hr e.symm);exact⟨(rZ (w:=w) (a:=⟨b,k,none⟩) hb).trans (h k v hk).c,(jV (w:=w) (a:=⟨b,k,none⟩) hb).trans (h k v hk).f,uX (h k v hk).lt hg.size⟩
theorem b8Q:(prog.info? 51).map (fun i=>i.size)=some 6:=by kernel_rfl
theorem fxQ (B:Nat)(cv tv plv bv:Value)(l:List K.Ds.yQ)(rs:List K.Rw)(pl:List K.Tu)(bts:List K.Rw)(bu bd:Int)(ag:Bool)(w:World)(hB:B<=w.heap.size)(hp:K.rQ w B cv l)(hr:K.tQ w B tv rs)(hpl:K.mG w B plv pl)(hI:∀ t∈pl,vX t.lo/\vX t.hi)(hbs:K.tQ w B bv bts)(hnl:∀ t∈bts,∀ n c,t.1=.slice none n c->c=0) :
  Calls prog 4 #[.agg #[cv,tv],plv,.agg #[.int .i64 bu,.int .i64 bd],bv,.bool ag] w fun e w'=>e=.returned (.bool true)/\Below w.heap.size w w':=by
 have HP:Hid (K.rQ w B cv l):=hp;have HRW:Hid (K.tQ w B tv rs):=hr;have HPL:Hid (K.mG w B plv pl):=hpl;have HII:Hid (∀ t∈pl,vX t.lo/\vX t.hi):=hI;have HBS:Hid (K.tQ w B bv bts):=hbs;have HNL:Hid (∀ t∈bts,∀ n c,t.1=.slice none n c->c=0):=hnl;obtain⟨la,lc,rfl,_⟩:=hp.slice;obtain⟨ra,rc,rfl,_⟩:=hr.slice;obtain⟨pa,pc,rfl,_⟩:=hpl.slice;obtain⟨ba0,bc0,rfl,_⟩:=hbs.slice;obtain⟨i4,hi4,hz40,hz41,hz42⟩:=zV e6Z;obtain⟨i3,hi3,hz30,hz31,hz32⟩:=zV fvJ;obtain⟨X,hX⟩:∃ X,(w.alloc (.cells #[.slice la l.length lc,.slice ra rs.length rc] 25)).alloc (.cells #[.int .i64 bu,.int .i64 bd] 32)=X:=⟨_,rfl⟩;have hb0:Below w.heap.size w X:=hX▸bal (ba _ _) _;have HB0:Hid (zH X w.heap.size [.slice la l.length lc,.slice ra rs.length rc] [.int .i64 bu,.int .i64 bd]):=hX▸zH.new w [.slice la l.length lc,.slice ra rs.length rc] [.int .i64 bu,.int .i64 bd];have ka:=e8Q X;clear hp hr hpl hI hbs hnl;go_enter func4,ntmps4;go_wp2_with fail;refine ka.mono ?_;rintro e1 w1 ⟨rfl,hb1⟩;have hbw1:Below w.heap.size w w1:=bt hb0 hb1;have HB1:Hid (zH w1 w.heap.size [.slice la l.length lc,.slice ra rs.length rc] [.int .i64 bu,.int .i64 bd]):=HB0.out.at hb1;clear ka hX HB0 hb0;obtain⟨er,her⟩:∃ er,K.Ds.iJ l (K.rr rs)=er:=⟨_,rfl⟩;have HER:Hid (K.Ds.iJ l (K.rr rs)=er):=her;have k2:=K.dcQ B _ _ l rs w1 (bQ hB hbw1.size) (HP.out.at hB hbw1) (HRW.out.at hB hbw1) er her;have x0:=(HB1.out.1 0 _ rfl).c;have x1:=(HB1.out.1 1 _ rfl).c;clear her;go_wp2_with fail;refine k2.mono ?_;rintro e2 w2 ⟨rfl,hb2⟩;have hbw2:Below w.heap.size w w2:=bt hbw1 hb2;have HB2:Hid (zH w2 w.heap.size [.slice la l.length lc,.slice ra rs.length rc] [.int .i64 bu,.int .i64 bd]):=HB1.out.at hb2;clear k2 x0 x1 HB1 hb1 hb2;by_cases he:¬ er=0
 ·as_aux_lemma =>
  have he1:(er == 0)=false:=by simpa using he
  have he2:(er != 0)=true:=by simpa using he
  go_wp2;go_ret;exact⟨rfl,hbw2⟩
 obtain rfl:er=0:=by omega
 clear he;have hce:=(K.Ds.oK (K.Ds.eO HER.out).1).1;obtain⟨⟨nm0,sz0⟩,hl0⟩:∃ c,l[0]? = some c:=⟨_,zJ (by omega)⟩
 have hnm:lG l=nm0:=by
  cases l with
  | nil=>simp at hl0
  | cons c l=>simp at hl0;subst hl0;rfl
 have HL0:Hid (l[0]? = some (nm0,sz0)):=hl0;obtain⟨r,hrd⟩:∃ r,K.P.eX [] (K.P.nrm (1,K.P.pN,0,bu,bd))=r:=⟨_,rfl⟩;have HRD:Hid (K.P.eX [] (K.P.nrm (1,K.P.pN,0,bu,bd))=r):=hrd;have HNM:Hid (lG l=nm0):=hnm;have k3:=K.P.frX bu bd r w2 hrd;have x4:=(HB2.out.2 0 _ rfl).c;have x5:=(HB2.out.2 1 _ rfl).c;clear hce hl0 hrd hnm;go_wp2_with fail;refine k3.mono ?_;rintro e3 w3 ⟨pv,rfl,hE3,hb3⟩;have hbw3:Below w.heap.size w w3:=bt hbw2 hb3;have HB3:Hid (zH w3 w.heap.size [.slice la l.length lc,.slice ra rs.length rc] [.int .i64 bu,.int .i64 bd]):=HB2.out.at hb3;have HE3:Hid (K.P.kJ w3 w3.heap.size pv [(1,K.P.pN,0,bu,bd)]):=hE3;obtain⟨qa,qc,rfl,_⟩:=hE3.slice;clear k3 x4 x5 HB2 hE3 hb3;by_cases hr0:¬ r=0
 ·as_aux_lemma =>
  have hrt:decide (r=0)=false:=by simpa using hr0
  rw[hrt];go_wp2;go_ret;exact⟨rfl,hbw3⟩
 obtain rfl:r=0:=by omega
 clear hr0;rw[show decide ((0:Int)=0)=true from rfl];obtain⟨ra1,hra1⟩:∃ y,eY l (K.rr rs) (fun q=>K.xJ (K.prt l q nm0)) K.P.pN (pld pl) 3 0 [(1,K.P.pN,0,bu,bd)]=y:=⟨_,rfl⟩;have HTA:Hid (eY l (K.rr rs) (fun q=>K.xJ (K.prt l q nm0)) K.P.pN (pld pl) 3 0 [(1,K.P.pN,0,bu,bd)]=ra1):=hra1;have hpb:∀ x∈[((1,K.P.pN,0,bu,bd):K.P.En)],-9223372036854775808<=x.2.2.1/\x.2.2.1<=9223372036854775807:=by intro x hx;simp at hx;subst hx;exact⟨by show(-9223372036854775808:Int)<=0;decide,by show(0:Int)<=9223372036854775807;decide⟩
 have k4:Calls prog 15 #[.agg #[.slice la l.length lc,.slice ra rs.length rc],.slice pa pl.length pc,.int .i64 0,.slice qa 1 qc,.int .i64 3] w3 (yA w3 ra1):=fvZ l rs nm0 sz0 HL0.out pl HII.out 3 0 [(1,K.P.pN,0,bu,bd)] B w3.heap.size _ _ _ _ w3 (bQ hB hbw3.size) (vQ _) (HP.out.at hB hbw3) (HRW.out.at hB hbw3) (HPL.out.at hB hbw3) HE3.out (by simp) hpb ra1 hra1;have x0:=(HB3.out.1 0 _ rfl).c;have x1:=(HB3.out.1 1 _ rfl).c;clear hra1 hpb HE3;go_wp2_with fail;refine k4.mono ?_;rintro e4 w4 ⟨a4,n4,c4,us4,b4,rfl,hb4,hres4⟩;have hbw4:Below w.heap.size w w4:=bt hbw3 hb4;have HB4:Hid (zH w4 w.heap.size [.slice la l.length lc,.slice ra rs.length rc] [.int .i64 bu,.int .i64 bd]):=HB3.out.at hb4;clear k4 x0 x1 HB3 hb4;rcases hres4 with⟨_,rfl⟩|⟨hs4,rfl,hp4⟩
 ·as_aux_lemma =>
  go_wp2;go_ret;exact⟨rfl,hbw4⟩
 obtain⟨a4',c4',hqe,_⟩:=id hp4;simp only[gZ] at hqe;obtain⟨rfl,rfl,rfl⟩:=hqe;have HPT:Hid (dQ w4 w4.heap.size (.slice a4 us4.length c4) us4):=hp4;have HTK:Hid (eY l (K.rr rs) (fun q=>K.xJ (K.prt l q (lG l))) dV (pld pl) 3 0 [(1,dV,0,bu,bd)]=some (rd us4)):=by rw[Hid,HNM.out];exact HTA.out.trans hs4
 have hz4:Hid (w.heap.size+1<w4.heap.size):=(HB4.out.2 0 _ rfl).lt;clear hp4 hs4 HTA HL0;go_upto_region 11 with fail;refine aF ?_;refine bxJ rfl 41 0 _ rfl _ rfl _ rfl _ bl1 ?_;refine bM rfl 32 _ rfl (w.heap.size+1) 0 rfl _ _ (aiQ HB4.out.2) underlying32 rfl byQ ?_;refine e7X rfl 41 0 2 3 _ _ _ rfl _ rfl _ _ _ rfl rfl rfl _ (blP bu bd) ?_;refine e7Z rfl 26 41 _ _ rfl w4.heap.size rfl _ rfl underlying26 _ _ rfl rfl _ (e7Q _ _) ?_;obtain⟨W5,hW5⟩:∃ W5,w4.alloc (.cells (sfl [cV 1 0 0 ⟨#[]⟩,cV 2 bu bd dV]).toArray 41)=W5:=⟨_,rfl⟩;have HBl5:Hid (Below w4.heap.size w4 W5):=hW5▸ba _ _
 have HSR5:Hid (W5.ownsRow w4.heap.size 41 18 (.slice (some ⟨w4.heap.size,0,none⟩) 2 2) 2 (sfl [cV 1 0 0 ⟨#[]⟩,cV 2 bu bd dV])):=by
  have:=World.ownsRow_lit (base:=w4.heap.size) (e:=41) (size:=18) w4 (sfl [cV 1 0 0 ⟨#[]⟩,cV 2 bu bd dV]).toArray 2 (vQ _) (by unfold maxLen;omega) rfl;rw[List.toList_toArray] at this;exact hW5▸this
 obtain⟨s5,ys5,hrun5,hs5⟩:=fmJ (x1:=(cV 1 0 0 ⟨#[]⟩).x) (x2:=(cV 2 bu bd dV).x) rfl rfl HER.out HRD.out;have HHS5:Hid (cJ l (K.rr rs) ⟨List.replicate 100 0,-1,false,false,[]⟩ [(cV 1 0 0 ⟨#[]⟩).x,(cV 2 bu bd dV).x]=(s5,ys5)/\Hs s5 [(1,dV,0,bu,bd)]):=⟨hrun5,hs5⟩;rw[hW5];clear hW5 hrun5 hs5 HRD;go_wp2
 go_loopw [14,15,16,17] (fun sv tv av kv wr=>∃ (k:Nat) (a:Int) (ss:List Stv) (told:List Int) (paid:List K.P.En) (s:HSt) (ys:List (K.P.Sn vU)) (D:List Pt),av=.int .i64 a/\kv=.int .i64 (k:Int)/\k<=3/\Hid (Below w4.heap.size w4 wr)/\Hid (wr.ownsRow w4.heap.size 41 18 sv ss.length (sfl ss))/\Hid (wr.ownsRow w4.heap.size 3 1 tv told.length (told.map (Value.int .i64)))/\Hid (∀ s∈ss,StA w B s)/\Hid (∃ t0 tr,ss=t0::tr/\t0.x.act=1)/\Hid (ss.length<=2+2*k/\told.length<=4096*k/\paid.length=k+1/\k<=3)/\Hid (cJ l (K.rr rs) ⟨List.replicate 100 0,-1,false,false,[]⟩ (ss.map Stv.x)=(s,ys)/\Hs s paid)/\Hid (eY l (K.rr rs) (fun q=>K.xJ (K.prt l q (lG l))) dV (pld pl) (3 - k) a paid=some D/\∀ o,0<wt D o->0<wt (rd us4) (told++o))) (fun _ _ _ kv _=>3 - (intOf kv).toNat)
 case atStart=>exact⟨0,0,[cV 1 0 0 ⟨#[]⟩,cV 2 bu bd dV],[],[(1,dV,0,bu,bd)],s5,ys5,rd us4,rfl,rfl,by omega,HBl5,HSR5,World.ownsRow_nil _ _ _ _,fun s hs=>(by
   simp only[fX,yF,uF] at hs;rcases hs with rfl|rfl
   ·exact⟨aiX _ _ _ _ _ _ (by decide),.inl rfl⟩
   ·exact⟨aiX _ _ _ _ _ _ (by decide),.inr (.inl rfl)⟩),⟨_,_,rfl,rfl⟩,⟨by simp,by simp,rfl,by omega⟩,HHS5.out,⟨HTK.out,fun o ho=>ho⟩⟩
 case round =>
  obtain⟨k,a,ss,told,paid,s,ys,D,rfl,rfl,hk3,HBl,HSR,HTR,HSM,HHD,HLN,HHS,HTD⟩:=hrel;obtain⟨sa,sc,rfl⟩:=wZ HSR.out;obtain⟨ta,tc,rfl⟩:=wZ HTR.out;clear HSR5 HBl5 HHS5;by_cases g1:¬ k<3
  ·as_aux_lemma =>
   obtain rfl:k=3:=by omega
   have hD:D=kZ:=akQ HTD.out.1 (.inl rfl);have hpos:0<wt (rd us4) told:=by have:=HTD.out.2 [] (by rw[hD];simp[kZ,wt]);rwa [fU] at this
   obtain⟨cn,cm,hch,hcn⟩:=pS (oS HTK.out) hpos;have hcn':decide (0<cn)=true:=by simpa using hcn
   have hbq:Below w.heap.size w wr:=bt hbw4 HBl.out;have kC:=nS wr.heap.size wr.heap.size (.slice a4 us4.length c4) (.slice ta told.length tc) us4 told wr (vQ _) ((HPT.out.keep HBl.out).mono HBl.out.size) (rS HTR.out (by have:=HLN.out;omega)) cn cm 0 hch;clear hD hpos hch;go_wp2_with fail;refine kC.mono ?_;rintro ec wc ⟨rfl,hbc⟩;have hbwc:Below w.heap.size w wc:=bt hbq hbc;clear kC;go_wp2;go_ret;exact⟨by simp,bal hbwc _⟩
  ·have g1:k<3:=by omega
   by_cases g2:a<0
   ·as_aux_lemma =>
    have g2':¬ 0<=a:=by omega
    have hD:D=kZ:=akQ HTD.out.1 (.inr (.inl g2));have hpos:0<wt (rd us4) told:=by have:=HTD.out.2 [] (by rw[hD];simp[kZ,wt]);rwa [fU] at this
    obtain⟨cn,cm,hch,hcn⟩:=pS (oS HTK.out) hpos;have hcn':decide (0<cn)=true:=by simpa using hcn
    have hbq:Below w.heap.size w wr:=bt hbw4 HBl.out;have kC:=nS wr.heap.size wr.heap.size (.slice a4 us4.length c4) (.slice ta told.length tc) us4 told wr (vQ _) ((HPT.out.keep HBl.out).mono HBl.out.size) (rS HTR.out (by have:=HLN.out;omega)) cn cm 0 hch;clear hD hpos hch;go_wp2_with fail;refine kC.mono ?_;rintro ec wc ⟨rfl,hbc⟩;have hbwc:Below w.heap.size w wc:=bt hbq hbc;clear kC;go_wp2;go_ret;exact⟨by simp,bal hbwc _⟩
   ·have g2':0<=a:=by omega
    by_cases g3:(pl.length:Int)<=a
    ·as_aux_lemma =>
     have g3':¬ a<(pl.length:Int):=by omega
     have hD:D=kZ:=akQ HTD.out.1 (.inr (.inr (by simp[pld];omega)));have hpos:0<wt (rd us4) told:=by have:=HTD.out.2 [] (by rw[hD];simp[kZ,wt]);rwa [fU] at this
     obtain⟨cn,cm,hch,hcn⟩:=pS (oS HTK.out) hpos;have hcn':decide (0<cn)=true:=by simpa using hcn
     have hbq:Below w.heap.size w wr:=bt hbw4 HBl.out;have kC:=nS wr.heap.size wr.heap.size (.slice a4 us4.length c4) (.slice ta told.length tc) us4 told wr (vQ _) ((HPT.out.keep HBl.out).mono HBl.out.size) (rS HTR.out (by have:=HLN.out;omega)) cn cm 0 hch;clear hD hpos hch;go_wp2_with fail;refine kC.mono ?_;rintro ec wc ⟨rfl,hbc⟩;have hbwc:Below w.heap.size w wc:=bt hbq hbc;clear kC;go_wp2;go_ret;exact⟨by simp,bal hbwc _⟩
    ·have g3':a<(pl.length:Int):=by omega
     obtain⟨i,rfl⟩:∃ i:Nat,a=(i:Int):=⟨a.toNat,by omega⟩;have hi:i<pl.length:=by omega
     obtain⟨b,o,t,rfl,hbB,hti,hat,hqm,hnx⟩:=HPL.out.get hB (bt hbw4 HBl.out) hi;obtain⟨v0,v1,v2,v3,v4,v5,qu,tu,td,tlo,thi,nv,ns⟩:=t;simp only at hqm hnx;obtain⟨k0,k1,k2,k3,q4,m4,d4,q5,m5,d5,rfl,rfl,rfl,rfl,rfl,rfl⟩:=hqm.shape;obtain⟨na,nc,rfl,_⟩:=hnx.slice;have HR:Hid (wr.rangeAt b (o+i*11) [.int .i64 k0,.string k1,.int .i64 k2,.int .i64 k3,.slice q4 m4 d4,.slice q5 m5 d5,.int .i64 tu,.int .i64 td,.int .i64 tlo,.int .i64 thi,.slice na ns.length nc]):=fqQ hat;have HTI:Hid (pl[i]? = some ⟨.int .i64 k0,.string k1,.int .i64 k2,.int .i64 k3,.slice q4 m4 d4,.slice q5 m5 d5,qu,tu,td,tlo,thi,.slice na ns.length nc,ns⟩):=hti;have HLH:Hid (vX tlo/\vX thi):=HII.out _ (qX hti)
     have HQM:Hid (K.Qm w B qu (.int .i64 k0) (.string k1) (.int .i64 k2) (.int .i64 k3) (.slice q4 m4 d4) (.slice q5 m5 d5)/\K.xA w B (.slice na ns.length nc) ns):=by
      obtain⟨_,_,_,_,_,hall,_⟩:=HPL.out;exact hall _ (qX hti)
     have HBw:Hid (Below w.heap.size w wr):=bt hbw4 HBl.out;have hz45:Hid (w4.heap.size<=wr.heap.size):=HBl.out.size;clear hat hqm hnx hti;obtain⟨W6,hW6⟩:∃ W6,wr.alloc (.cells ([.int .i64 k0,.string k1,.int .i64 k2,.int .i64 k3,.slice q4 m4 d4,.slice q5 m5 d5,.int .i64 tu,.int .i64 td,.int .i64 tlo,.int .i64 thi,.slice na ns.length nc]:List Value).toArray 66)=W6:=⟨_,rfl⟩;have HB6:Hid (Below wr.heap.size wr W6):=hW6▸ba _ _;have HQ6:Hid (Bx W6 wr.heap.size [.int .i64 k0,.string k1,.int .i64 k2,.int .i64 k3,.slice q4 m4 d4,.slice q5 m5 d5,.int .i64 tu,.int .i64 td,.int .i64 tlo,.int .i64 thi,.slice na ns.length nc]):=hW6▸Bx.new wr [.int .i64 k0,.string k1,.int .i64 k2,.int .i64 k3,.slice q4 m4 d4,.slice q5 m5 d5,.int .i64 tu,.int .i64 td,.int .i64 tlo,.int .i64 thi,.slice na ns.length nc] 66 rfl;have HZ6:Hid (W6.heap.size=wr.heap.size+1):=by rw[Hid,<-hW6];simp
     have j1:(k:Int)<3:=by omega
     go_upto_region 17 with fail;refine aF ?_;(iterate 9 go_step);refine bM rfl 66 _ rfl b (o+i*11) rfl _ _ HR.out underlying66 rfl akJ ?_;(iterate 3 go_step);refine wpList_store_rowTo rfl 66 _ _ rfl rfl wr.heap.size _ rfl rfl 66 _ (Go.heap_alloc_last _ _) akJ rfl (all_oneCell_toArray (fwX k0 k1 k2 k3 q4 m4 d4 q5 m5 d5 tu td tlo thi na ns.length nc)) ?_;rw[apX];rw[hW6];clear hW6;have c8:=(HQ6.out 8 _ rfl).c;have c9:=(HQ6.out 9 _ rfl).c;obtain⟨W7,hW7⟩:∃ W7,W6.alloc (.cells ([.string dV,.int .i64 k0,.string k1,.int .i64 k2,.int .i64 k3,.slice q4 m4 d4,.slice q5 m5 d5,.int .i64 tu,.int .i64 td,.int .i64 tlo,.int .i64 thi,.slice none 0 0]:List Value).toArray 39)=W7:=⟨_,rfl⟩;have HB7:Hid (Below W6.heap.size W6 W7):=hW7▸ba _ _;have HX7:Hid (Bx W7 W6.heap.size [.string dV,.int .i64 k0,.string k1,.int .i64 k2,.int .i64 k3,.slice q4 m4 d4,.slice q5 m5 d5,.int .i64 tu,.int .i64 td,.int .i64 tlo,.int .i64 thi,.slice none 0 0]):=hW7▸Bx.new W6 [.string dV,.int .i64 k0,.string k1,.int .i64 k2,.int .i64 k3,.slice q4 m4 d4,.slice q5 m5 d5,.int .i64 tu,.int .i64 td,.int .i64 tlo,.int .i64 thi,.slice none 0 0] 39 rfl;go_upto_region 18 with fail;refine aF ?_;(iterate 3 go_step);refine bM rfl 36 _ rfl wr.heap.size 0 rfl [.int .i64 k0,.string k1,.int .i64 k2,.int .i64 k3,.slice q4 m4 d4,.slice q5 m5 d5] _ (b7X HQ6.out 0 _ (fun j v hj=>by match j,hj with|0,hj=>exact hj|1,hj=>exact hj|2,hj=>exact hj|3,hj=>exact hj|4,hj=>exact hj|5,hj=>exact hj|j+6,hj=>simp at hj)) underlying36 rfl foZ ?_;(iterate 3 go_step);refine bM rfl 32 _ rfl wr.heap.size 6 rfl [.int .i64 tu,.int .i64 td] _ (b7X HQ6.out 6 _ (fun j v hj=>by match j,hj with|0,hj=>exact hj|1,hj=>exact hj|j+2,hj=>simp at hj)) underlying32 rfl byQ ?_;(iterate 12 go_step);refine fpQ rfl 39 0 1 2 3 4 _ _ _ _ _ rfl _ rfl _ _ _ _ _ rfl rfl rfl rfl rfl _ (foJ k0 k1 k2 k3 q4 m4 d4 q5 m5 d5 tu td tlo thi) ?_;(iterate 3 go_step);refine wpList_store_rowTo rfl 39 _ _ rfl rfl W6.heap.size _ rfl rfl 39 _ (Go.heap_alloc_last _ _) ahZ rfl (all_oneCell_toArray (fwZ k0 k1 k2 k3 q4 m4 d4 q5 m5 d5 tu td tlo thi none 0 0)) ?_;rw[apX];rw[hW7];clear hW7 c8 c9;have HZ7:Hid (W6.heap.size<W7.heap.size):=(HX7.out 0 _ rfl).lt;go_upto_if 81 with fail
     go_cut [14] (fun sv wx=>sv=.slice sa ss.length sc/\∃ (bits:List Int) (xa:Option Addr) (xc:Nat),Hid (Bx wx W6.heap.size [.string dV,.int .i64 k0,.string k1,.int .i64 k2,.int .i64 k3,.slice q4 m4 d4,.slice q5 m5 d5,.int .i64 tu,.int .i64 td,.int .i64 tlo,.int .i64 thi,.slice xa bits.length xc])/\Hid (Below W6.heap.size W6 wx)/\Hid (W6.heap.size<wx.heap.size)/\Hid (K.jQ w B B (.slice xa bits.length xc) bits/\(xa=none->xc=0)))
     case first =>
      by_cases h5:k<bts.length
      ·have h5':(k:Int)<(bts.length:Int):=by omega
       obtain⟨b',o',sa',sc',xs,rfl,hb',hg',hcell',hints'⟩:=HBS.out.get hB (bt HBw.out (bt HB6.out HB7.out)) h5
       have HBI:Hid (K.jQ w B B (.slice sa' xs.length sc') xs/\(sa' = none->sc' = 0)):=by
        obtain⟨_,_,_,_,_,hall,_⟩:=HBS.out;exact⟨hall _ (qX hg'),fun h=>HNL.out _ (qX hg') xs.length sc' (by rw[h])⟩
       have HXS:Hid (Bx (W7.setCell ⟨W6.heap.size,11,none⟩ (.slice sa' xs.length sc')) W6.heap.size [.string dV,.int .i64 k0,.string k1,.int .i64 k2,.int .i64 k3,.slice q4 m4 d4,.slice q5 m5 d5,.int .i64 tu,.int .i64 td,.int .i64 tlo,.int .i64 thi,.slice sa' xs.length sc']):=HX7.out.set (i:=11) (by simp) _;have c11:=(HX7.out 11 _ rfl).c;have f11:=(HX7.out 11 _ rfl).f;clear hints' hg';go_wp2;go_meet;exact⟨rfl,xs,sa',sc',HXS,bs HB7.out (vQ _) _,by simpa [Hid] using HZ7.out,HBI⟩
      ·have h5':¬ (k:Int)<(bts.length:Int):=by omega
       go_wp2;go_meet;exact⟨rfl,[],none,0,HX7,HB7,HZ7,⟨none,0,rfl,vQ _,by simp,fun h=>absurd rfl h⟩,fun _=>rfl⟩
     case rest =>
      obtain⟨rfl,bits,xa,xc,HX8,HB8,HZ8,HBI⟩:=hcut;obtain⟨w8,hw8⟩:∃ w8:World,w8=wc:=⟨_,rfl⟩;subst hw8;have HS8:Hid (w8.ownsRow w4.heap.size 41 18 (.slice sa ss.length sc) ss.length (sfl ss)):=nV (nV HSR.out (xX HB6.out) (fun _ _ h=>h)) (xX HB8.out) (fun _ _ h=>h);clear HX7 HB7 HZ7;go_upto_if 87 with fail
      go_cut [14] (fun sv wx=>∃ (ss':List Stv) (s':HSt) (ys':List (K.P.Sn vU)),Hid (wx.ownsRow w4.heap.size 41 18 sv ss'.length (sfl ss'))/\Hid (w8.grownBy wx (Value.slice sa ss.length sc).ownBlock)/\Hid (∀ g,sv.ownBlock=some g->w4.heap.size<=g/\(g<wr.heap.size\/w8.heap.size<=g))/\Hid (∀ s∈ss',StA w B s)/\Hid (∃ t0 tr,ss' = t0::tr/\t0.x.act=1)/\Hid (ss'.length<=3+2*k)/\Hid (cJ l (K.rr rs) ⟨List.replicate 100 0,-1,false,false,[]⟩ (ss'.map Stv.x)=(s',ys')/\Hs s' paid))
      case first =>
       cases ag with
       | false =>
        go_wp2;go_meet;exact⟨ss,s,ys,HS8,jX _ _,fun g hg=>⟨(yX HSR.out hg).1,.inl (yX HSR.out hg).2⟩,HSM,HHD,by have:=HLN.out;show _<=_;omega,HHS.out⟩
       | true =>
        obtain⟨s1,y1,hstep,hs1⟩:=fmZ HHS.out.2 (x:=(cV 1 0 0 ⟨#[]⟩).x) rfl HER.out;obtain⟨zs,hz1,_⟩:=b4X HHS.out.1 hstep;have HRN:Hid (cJ l (K.rr rs) ⟨List.replicate 100 0,-1,false,false,[]⟩ ((ss++[cV 1 0 0 ⟨#[]⟩]).map Stv.x)=(s1,zs)/\Hs s1 paid):=⟨by rw[yY];exact hz1,hs1⟩;have HO9:Hid ((w8.alloc (.cells (sfl [cV 1 0 0 ⟨#[]⟩]).toArray 41)).ownsRow w4.heap.size 41 18 (.slice sa ss.length sc) ss.length (sfl ss)):=HS8.out.alloc _;have HN1:Hid (∀ j u,(sfl [cV 1 0 0 ⟨#[]⟩])[j]? = some u->(w8.alloc (.cells (sfl [cV 1 0 0 ⟨#[]⟩]).toArray 41)).cell? ((⟨w8.heap.size,0,none⟩:Addr).add j)=some u):=b7Z w8 _ 41;have HN2:Hid (∀ u∈sfl [cV 1 0 0 ⟨#[]⟩],u.oneCell' = true):=b7J _;have HN3:Hid (ss.length+1<=maxLen):=by have:=HLN.out;show _<=_;unfold maxLen;omega
        have HN4:Hid ((ss.length+1)*216<=140737488355328):=by have:=HLN.out;show _<=_;omega
        have HN5:Hid (w4.heap.size<=(w8.alloc (.cells (sfl [cV 1 0 0 ⟨#[]⟩]).toArray 41)).heap.size):=by have:=HZ8.out;have:=HZ6.out;have:=hz45.out;show _<=_;simp;omega
        have HN6:Hid ((w8.alloc (.cells (sfl [cV 1 0 0 ⟨#[]⟩]).toArray 41)).heap.size=w8.heap.size+1):=by show _=_;simp
        go_upto_region 22 with fail;refine aF ?_;(iterate 3 go_step);refine bxJ rfl 41 0 _ rfl _ rfl _ rfl _ bl1 ?_;refine ahX rfl 26 41 _ rfl w8.heap.size rfl _ rfl underlying26 _ rfl _ (b4Z _) ?_;refine uE _ rfl _ _ 26 rfl w4.heap.size 41 i4 Z18 18 216 underlying26 hi4 hz40 hz41 hz42 rfl (by decide) _ _ _ rfl HO9.out ⟨w8.heap.size,0,none⟩ 1 1 (sfl [cV 1 0 0 ⟨#[]⟩]) rfl (by rw[bwJ];rfl) HN1.out HN2.out (by decide) HN3.out HN4.out HN5.out (w8.heap.size+1) HN6.out ?_;intro g cap w9 hown hgrow hat hglt
        have HO10:Hid (w9.ownsRow w4.heap.size 41 18 (.slice (some ⟨g,0,none⟩) (ss.length+1) cap) (ss++[cV 1 0 0 ⟨#[]⟩]).length (sfl (ss++[cV 1 0 0 ⟨#[]⟩]))):=by
         rw[Hid,dJ,bH,bxQ];have e:sfl [cV 1 0 0 ⟨#[]⟩]=(cV 1 0 0 ⟨#[]⟩).cs:=by simp[sfl]
         rw[<-e];exact hown
        have HG9:Hid (w8.grownBy w9 (Value.slice sa ss.length sc).ownBlock):=bY (eN w8 _ _) hgrow
        have HBK:Hid (∀ g',(Value.slice (some ⟨g,0,none⟩) (ss.length+1) cap).ownBlock=some g'->w4.heap.size<=g'/\(g' < wr.heap.size\/w8.heap.size<=g')):=fun g' hg'=>(by
         obtain rfl:g=g':=by simpa [Value.ownBlock] using hg'
         refine⟨(yX hown rfl).1,?_⟩;rcases hat with h|h
         ·exact .inl (yX HSR.out h).2
         ·exact .inr (by omega))
        clear hown hgrow hat HO9 HN1;go_wp2;go_meet
        exact⟨ss++[cV 1 0 0 ⟨#[]⟩],s1,zs,HO10,HG9,HBK,fun t ht=>(by
         rcases kV.1 ht with ht|ht
         ·exact HSM.out t ht
         ·simp at ht;subst ht;exact⟨aiX _ _ _ _ _ _ (by decide),.inl rfl⟩),(let ⟨t0,tr,h1,h2⟩:=HHD.out;⟨t0,tr++[cV 1 0 0 ⟨#[]⟩],by rw[h1];rfl,h2⟩),by have:=HLN.out;show _<=_;simp;omega,HRN.out⟩
      case rest =>
       obtain⟨ss',s',ys',HS9,HG9,HBK,HM9,HHD9,HL9,HHS9⟩:=hcut;obtain⟨w9,hw9⟩:∃ w9:World,w9=wc:=⟨_,rfl⟩;subst hw9;obtain⟨sa',sc',rfl⟩:=wZ HS9.out;have hown9:∀ g,(Value.slice sa ss.length sc).ownBlock=some g->w4.heap.size<=g/\g<wr.heap.size:=fun g hg=>yX HSR.out hg;have HX9:Hid (Bx w9 W6.heap.size [.string dV,.int .i64 k0,.string k1,.int .i64 k2,.int .i64 k3,.slice q4 m4 d4,.slice q5 m5 d5,.int .i64 tu,.int .i64 td,.int .i64 tlo,.int .i64 thi,.slice xa bits.length xc]):=bP HX8.out HG9.out (fun e=>by have:=(hown9 _ e).2;have:=HZ6.out;omega);have HZ9:Hid (w8.heap.size<=w9.heap.size):=HG9.out.size;have HB9:Hid (Below w4.heap.size w4 w9):=alJ (bt (bt HBl.out HB6.out) HB8.out) (vQ _) HG9.out (fun g hg=>(hown9 g hg).1);have HQ9:Hid (Bx w9 wr.heap.size [.int .i64 k0,.string k1,.int .i64 k2,.int .i64 k3,.slice q4 m4 d4,.slice q5 m5 d5,.int .i64 tu,.int .i64 td,.int .i64 tlo,.int .i64 thi,.slice na ns.length nc]):=bP (HQ6.out.at HB8.out) HG9.out (fun e=>by have:=(hown9 _ e).2;omega)
       have HT9:Hid (w9.ownsRow w4.heap.size 3 1 (.slice ta told.length tc) told.length (told.map (Value.int .i64))):=by
        have h8:=nV (nV HTR.out (xX HB6.out) (fun _ _ h=>h)) (xX HB8.out) (N:=fun _=>False) (fun _ _ h=>h);refine oZ h8 HG9.out (fun g hg e=>?_);obtain⟨c1,f1,e1⟩:=aT h8 g hg;obtain⟨c2,f2,e2⟩:=aT HS8.out g e;rw[e1] at e2;simp at e2
       have HTB:Hid (∀ g,(Value.slice ta told.length tc).ownBlock=some g->w4.heap.size<=g/\g<wr.heap.size):=fun g hg=>yX HTR.out hg;clear HSR HTR HX8 HS8 HQ6 HHS HSM HG9 hown9;obtain⟨s2,y,hstep,hcase⟩:=fnX HHS9.out.2 (by have:=HLN.out;omega) (x:=(thr qu k0 k1 k2 k3 q4 m4 d4 q5 m5 d5 tu td tlo thi bits xa xc).x) rfl (plan:=pld pl) (a:=(i:Int)) (t:=⟨qu,tu,td,tlo,thi,K.nd ns⟩) (by omega) (by rw[aK,b7Q,HTI.out];rfl) ⟨rfl,rfl,rfl,rfl,rfl⟩ (2 - k) (D:=D) (by rw[show 2 - k+1=3 - k by omega];exact HTD.out.1);obtain⟨zs,hz1,hz2⟩:=b4X HHS9.out.1 hstep;have HRN:Hid (cJ l (K.rr rs) ⟨List.replicate 100 0,-1,false,false,[]⟩ ((ss' ++ [thr qu k0 k1 k2 k3 q4 m4 d4 q5 m5 d5 tu td tlo thi bits xa xc]).map Stv.x)=(s2,zs)):=by rw[Hid,yY];exact hz1
       have HYL:Hid (zs[ss'.length]? = some y):=by rw[uU] at hz2;exact hz2
       have HCS:Hid _:=hcase
       have HSN:Hid (∀ t∈ss' ++ [thr qu k0 k1 k2 k3 q4 m4 d4 q5 m5 d5 tu td tlo thi bits xa xc],StA w B t):=fun t ht=>(by
        have z0:vX 0:=⟨by decide,by decide⟩;rcases kV.1 ht with ht|ht
        ·exact HM9.out t ht
        ·simp at ht
         subst ht;exact⟨⟨B,HQM.out.1,⟨⟨xa,xc,rfl⟩,fun hl=>fpJ HBI.out.1 (by omega)⟩,HBI.out.2,HLH.out.1,HLH.out.2,z0,z0,kQ _,show dV.size<=9223372036854775807 by decide⟩,.inr (.inr rfl)⟩)
       have HHN:Hid (∃ t0 tr,ss' ++ [thr qu k0 k1 k2 k3 q4 m4 d4 q5 m5 d5 tu td tlo thi bits xa xc]=t0::tr/\t0.x.act=1):=(let ⟨t0,tr,h1,h2⟩:=HHD9.out;⟨t0,tr++[thr qu k0 k1 k2 k3 q4 m4 d4 q5 m5 d5 tu td tlo thi bits xa xc],by rw[h1];rfl,h2⟩);clear hstep hcase hz1 hz2 HM9 HHS9;have HO10:Hid ((w9.alloc (.cells (sfl [thr qu k0 k1 k2 k3 q4 m4 d4 q5 m5 d5 tu td tlo thi bits xa xc]).toArray 41)).ownsRow w4.heap.size 41 18 (.slice sa' ss'.length sc') ss'.length (sfl ss')):=HS9.out.alloc _;have HN1:Hid (∀ j u,(sfl [thr qu k0 k1 k2 k3 q4 m4 d4 q5 m5 d5 tu td tlo thi bits xa xc])[j]? = some u->(w9.alloc (.cells (sfl [thr qu k0 k1 k2 k3 q4 m4 d4 q5 m5 d5 tu td tlo thi bits xa xc]).toArray 41)).cell? ((⟨w9.heap.size,0,none⟩:Addr).add j)=some u):=b7Z w9 _ 41;have HN2:Hid (∀ u∈sfl [thr qu k0 k1 k2 k3 q4 m4 d4 q5 m5 d5 tu td tlo thi bits xa xc],u.oneCell' = true):=b7J _;have HN3:Hid (ss'.length+1<=maxLen):=by have:=HL9.out;show _<=_;unfold maxLen;omega
       have HN4:Hid ((ss'.length+1)*216<=140737488355328):=by have:=HL9.out;show _<=_;omega
       have HN5:Hid (w4.heap.size<=(w9.alloc (.cells (sfl [thr qu k0 k1 k2 k3 q4 m4 d4 q5 m5 d5 tu td tlo thi bits xa xc]).toArray 41)).heap.size):=by have:=HB9.out.size;show _<=_;simp;omega
       have HN6:Hid ((w9.alloc (.cells (sfl [thr qu k0 k1 k2 k3 q4 m4 d4 q5 m5 d5 tu td tlo thi bits xa xc]).toArray 41)).heap.size=w9.heap.size+1):=by show _=_;simp
       go_upto_region 23 with fail;refine aF ?_;(iterate 3 go_step);refine bM rfl 39 _ rfl W6.heap.size 0 rfl _ _ (aiQ HX9.out) underlying39 rfl ahZ ?_;refine e8J rfl 41 0 4 _ _ rfl _ rfl _ _ rfl rfl _ (blA qu k0 k1 k2 k3 q4 m4 d4 q5 m5 d5 tu td tlo thi bits xa xc) ?_;refine ahX rfl 26 41 _ rfl w9.heap.size rfl _ rfl underlying26 _ rfl _ (b4Z _) ?_;refine uE _ rfl _ _ 26 rfl w4.heap.size 41 i4 Z18 18 216 underlying26 hi4 hz40 hz41 hz42 rfl (by decide) _ _ _ rfl HO10.out ⟨w9.heap.size,0,none⟩ 1 1 (sfl [thr qu k0 k1 k2 k3 q4 m4 d4 q5 m5 d5 tu td tlo thi bits xa xc]) rfl (by rw[bwJ];rfl) HN1.out HN2.out (by decide) HN3.out HN4.out HN5.out (w9.heap.size+1) HN6.out ?_;intro g cap w11 hown hgrow hat hglt;have hgb:w9.grownBy w11 (Value.slice sa' ss'.length sc').ownBlock:=bY (eN w9 _ _) hgrow;have h89:=HZ9.out;have h68:=HZ8.out;have hr6:=HZ6.out
       have hnx:∀ k,wr.heap.size<=k->k<=W6.heap.size->(Value.slice sa' ss'.length sc').ownBlock≠some k:=fun k h1 h2 e=>by
        rcases (HBK.out k e).2 with h|h <;> omega
       have HX11:Hid (Bx w11 W6.heap.size [.string dV,.int .i64 k0,.string k1,.int .i64 k2,.int .i64 k3,.slice q4 m4 d4,.slice q5 m5 d5,.int .i64 tu,.int .i64 td,.int .i64 tlo,.int .i64 thi,.slice xa bits.length xc]):=bP HX9.out hgb (hnx _ (by omega) (vQ _));have HQ11:Hid (Bx w11 wr.heap.size [.int .i64 k0,.string k1,.int .i64 k2,.int .i64 k3,.slice q4 m4 d4,.slice q5 m5 d5,.int .i64 tu,.int .i64 td,.int .i64 tlo,.int .i64 thi,.slice na ns.length nc]):=bP HQ9.out hgb (hnx _ (vQ _) (by omega))
       have HT11:Hid (w11.ownsRow w4.heap.size 3 1 (.slice ta told.length tc) told.length (told.map (Value.int .i64))):=by
        refine oZ HT9.out hgb (fun g hg e=>?_);obtain⟨c1,f1,e1⟩:=aT HT9.out g hg;obtain⟨c2,f2,e2⟩:=aT HS9.out g e;rw[e1] at e2;simp at e2
       have HB11:Hid (Below w4.heap.size w4 w11):=alJ HB9.out (vQ _) hgb (fun g hg=>(HBK.out g hg).1);have HZ11:Hid (w9.heap.size<=w11.heap.size):=hgb.size
       have HS11:Hid (w11.ownsRow w4.heap.size 41 18 (.slice (some ⟨g,0,none⟩) (ss'.length+1) cap) (ss' ++ [thr qu k0 k1 k2 k3 q4 m4 d4 q5 m5 d5 tu td tlo thi bits xa xc]).length (sfl (ss' ++ [thr qu k0 k1 k2 k3 q4 m4 d4 q5 m5 d5 tu td tlo thi bits xa xc]))):=by
        rw[Hid,dJ,bH,bxQ];have e:sfl [thr qu k0 k1 k2 k3 q4 m4 d4 q5 m5 d5 tu td tlo thi bits xa xc]=(thr qu k0 k1 k2 k3 q4 m4 d4 q5 m5 d5 tu td tlo thi bits xa xc).cs:=by simp[sfl]
        rw[<-e];exact hown
       have HGL:Hid (g<w11.heap.size):=hglt;have hbw11:Below w.heap.size w w11:=bt hbw4 HB11.out
       have KH:Hid (∀ V:World,Below w11.heap.size w11 V->Calls prog 9 #[.agg #[.slice la l.length lc,.slice ra rs.length rc],.slice (some ⟨V.heap.size,0,none⟩) 100 100,.slice (some ⟨g,0,none⟩) (ss'.length+1) cap] (V.alloc (.cells (madeCells #[.int .i64 0] 100) 2)) fun e W'=>∃ ov sl,e=.returned (.tuple #[ov,sl,.bool true])/\Las y (ss'.length+1) w11.heap.size ov W'/\Below w11.heap.size w11 W'):=by
        have h:=foX w11 B w4.heap.size _ _ _ l rs (ss' ++ [thr qu k0 k1 k2 k3 q4 m4 d4 q5 m5 d5 tu td tlo thi bits xa xc]) y (bQ hB hbw11.size) (HP.out.at hB hbw11) (HRW.out.at hB hbw11) HS11.out (fun t ht=>((HSN.out t ht).1.keep (hbw11.mono hB)).mono (bQ hB hbw11.size)) (by have:=HL9.out;simp;omega) (fun t ht=>(HSN.out t ht).2) HER.out (fun t ht=>by obtain⟨t0,tr,h1,h2⟩:=HHN.out;rw[h1] at ht;simp at ht;rw[<-ht];exact h2) (by rw[HRN.out,dJ,bH];exact HYL.out);rw[dJ,bH] at h;exact h
       have HPB:Hid (zH w11 w.heap.size [.slice la l.length lc,.slice ra rs.length rc] [.int .i64 bu,.int .i64 bd]):=HB4.out.at HB11.out;clear hown hgrow hat hgb hnx HO10 HN1 HX9 HQ9 HT9 HS9 hglt h89 h68 hr6 HYL HBK;go_upto_region 24 with fail;refine wp_region_noPanic (e9Q (fun _ _ _ _ _ h=>h) _ _ _ _ _ _ _ _ _ _ _ _ _ _ _ _ _ _ _ _ _ _ _ _ _ _ _ _ _ _ _ _ _ _ _ _ _ _ _ _ _ _ _ _ _ _ _ _ _ _ _ _ _ _ _ _ _ _ _ _ _ _ _ _ _ _ _ _ _ _ _ _ _ _ _ _ _ _ _ _ _ _ _ _ _ _ _ _ _ _ _ _ _ _ _ _ _ _ _ _ _ _ _ _ _ _ _ _ _ _ _ _ _ _ _ _ _ _ _ _ _ _ _ _ _ _ _ _ _ _ _ _ _ _ _ _ _ _ _ _ _ _ _ _ _ _ _ _ _ _ _ _ _ _ _ _ _ _ _ _ _ _ _ w11 w.heap.size _ _ (fun ov W=>Las y (ss'.length+1) w11.heap.size ov W) (fun W hW=>⟨((HPB.out.1.at hW) 0 _ rfl).c,((HPB.out.1.at hW) 1 _ rfl).c⟩) KH.out ?_);intro u97 u98 u99 u100 u101 u102 u103 u104 ov sl w12 hb12 hL;refine NoPanic.normal ?_;obtain⟨g2,c2,ta2,tn2,tc2,xa2,xn2,xc2,us2,lu2,ld2,rfl,hg21,hg22,hrg,htold⟩:=hL;have HX12:Hid (Bx w12 W6.heap.size [.string dV,.int .i64 k0,.string k1,.int .i64 k2,.int .i64 k3,.slice q4 m4 d4,.slice q5 m5 d5,.int .i64 tu,.int .i64 td,.int .i64 tlo,.int .i64 thi,.slice xa bits.length xc]):=HX11.out.at hb12;have HQ12:Hid (Bx w12 wr.heap.size [.int .i64 k0,.string k1,.int .i64 k2,.int .i64 k3,.slice q4 m4 d4,.slice q5 m5 d5,.int .i64 tu,.int .i64 td,.int .i64 tlo,.int .i64 thi,.slice na ns.length nc]):=HQ11.out.at hb12;have HT12:Hid (w12.ownsRow w4.heap.size 3 1 (.slice ta told.length tc) told.length (told.map (Value.int .i64))):=nV HT11.out (xX hb12) (N:=fun _=>False) (fun _ _ h=>h);have HS12:Hid (w12.ownsRow w4.heap.size 41 18 (.slice (some ⟨g,0,none⟩) (ss'.length+1) cap) (ss' ++ [thr qu k0 k1 k2 k3 q4 m4 d4 q5 m5 d5 tu td tlo thi bits xa xc]).length (sfl (ss' ++ [thr qu k0 k1 k2 k3 q4 m4 d4 q5 m5 d5 tu td tlo thi bits xa xc]))):=nV HS11.out (xX hb12) (N:=fun _=>False) (fun _ _ h=>h);have HB12:Hid (Below w4.heap.size w4 w12):=bt HB11.out hb12;have HZ12:Hid (w11.heap.size<=w12.heap.size):=hb12.size;have HTO:Hid _:=htold;have HRG:Hid _:=hrg;clear KH HPB HX11 HQ11 HT11 HS11 HB11 hb12 htold hrg HGL;obtain⟨W13,hW13⟩:∃ W13,w12.alloc (.cells ([.int .i64 y.err,.slice ta2 tn2 tc2,.int .i64 us2,.int .i64 lu2,.int .i64 ld2,.slice xa2 xn2 xc2]:List Value).toArray 51)=W13:=⟨_,rfl⟩;have HB13:Hid (Below w12.heap.size w12 W13):=hW13▸ba _ _;have HY13:Hid (Bx W13 w12.heap.size [.int .i64 y.err,.slice ta2 tn2 tc2,.int .i64 us2,.int .i64 lu2,.int .i64 ld2,.slice xa2 xn2 xc2]):=hW13▸Bx.new w12 [.int .i64 y.err,.slice ta2 tn2 tc2,.int .i64 us2,.int .i64 lu2,.int .i64 ld2,.slice xa2 xn2 xc2] 51 rfl;have hlen9:ss'.length<=9:=by have:=HL9.out;omega
       go_upto_region 27 with fail;have HRG':Hid (w12.rangeAt g2 (ss'.length*6) [.int .i64 y.err,.slice ta2 tn2 tc2,.int .i64 us2,.int .i64 lu2,.int .i64 ld2,.slice xa2 xn2 xc2]):=by have:=HRG.out;rwa [Nat.add_sub_cancel,xZ] at this
       refine aF ?_;(iterate 15 go_step);refine bM rfl 51 _ rfl g2 (ss'.length*6) rfl _ _ HRG'.out underlying51 rfl b8Q ?_;(iterate 3 go_step);refine wpList_store_rowTo rfl 51 _ _ rfl rfl w12.heap.size _ rfl rfl 51 _ (Go.heap_alloc_last _ _) b8Q rfl (all_oneCell_toArray (fwJ _ _ _ _ _ _ _ _ _ _)) ?_;rw[apX];rw[hW13];clear hW13 HRG HRG';have HX13:Hid (Bx W13 W6.heap.size [.string dV,.int .i64 k0,.string k1,.int .i64 k2,.int .i64 k3,.slice q4 m4 d4,.slice q5 m5 d5,.int .i64 tu,.int .i64 td,.int .i64 tlo,.int .i64 thi,.slice xa bits.length xc]):=HX12.out.at HB13.out;have HQ13:Hid (Bx W13 wr.heap.size [.int .i64 k0,.string k1,.int .i64 k2,.int .i64 k3,.slice q4 m4 d4,.slice q5 m5 d5,.int .i64 tu,.int .i64 td,.int .i64 tlo,.int .i64 thi,.slice na ns.length nc]):=HQ12.out.at HB13.out;have HT13:Hid (W13.ownsRow w4.heap.size 3 1 (.slice ta told.length tc) told.length (told.map (Value.int .i64))):=nV HT12.out (xX HB13.out) (N:=fun _=>False) (fun _ _ h=>h);have HS13:Hid (W13.ownsRow w4.heap.size 41 18 (.slice (some ⟨g,0,none⟩) (ss'.length+1) cap) (ss' ++ [thr qu k0 k1 k2 k3 q4 m4 d4 q5 m5 d5 tu td tlo thi bits xa xc]).length (sfl (ss' ++ [thr qu k0 k1 k2 k3 q4 m4 d4 q5 m5 d5 tu td tlo thi bits xa xc]))):=nV HS12.out (xX HB13.out) (N:=fun _=>False) (fun _ _ h=>h);have HBL:Hid (Below w4.heap.size w4 W13):=bt HB12.out HB13.out;have hbw13:Below w.heap.size w W13:=bt hbw4 HBL.out;have HZ13:Hid (w12.heap.size<W13.heap.size):=(HY13.out 0 _ rfl).lt;have y0:=(HY13.out 0 _ rfl).c;have x11:=(HX13.out 11 _ rfl).c;clear HX12 HQ12 HT12 HS12;by_cases h6:y.err=6
       ·as_aux_lemma =>
        rw[h6] at y0;go_wp2;go_ret;exact⟨rfl,hbw13⟩
       by_cases h5:y.err=5
       ·as_aux_lemma =>
        rw[h5] at y0;go_wp2;go_ret;exact⟨rfl,hbw13⟩
       have b6:(y.err == 6)=false:=by simpa using h6
       have b5:(y.err == 5)=false:=by simpa using h5
       by_cases h3:y.err=3
       ·as_aux_lemma =>
        have hints:=(HBI.out.1.keep (hbw13.mono hB));have kW:=fpZ B B _ bits W13 hints;rw[h3] at y0;cases hbad:tY bits with
        | true =>
         rw[hbad] at kW;clear hints;go_wp2_with fail;refine kW.mono ?_;rintro e14 w14 ⟨rfl,rfl⟩;go_wp2;go_ret;exact⟨rfl,hbw13⟩
        | false =>
         rw[hbad] at kW
         have HDD:Hid (D=kZ):=by
          rcases HCS.out with h|h|h
          ·rcases h with h|h|h
           ·exact absurd h h6
           ·exact absurd h h5
           ·have h2:tY bits=true:=h.2
            rw[hbad] at h2;cases h2
          ·exact h.2
          ·have:=h.1;omega
         clear hints hbad;go_wp2_with fail;refine kW.mono ?_;rintro e14 w14 ⟨rfl,rfl⟩;have hD:D=kZ:=HDD.out;have hpos:0<wt (rd us4) told:=by have:=HTD.out.2 [] (by rw[hD];simp[kZ,wt]);rwa [fU] at this
         obtain⟨cn,cm,hch,hcn⟩:=pS (oS HTK.out) hpos;have hcn':decide (0<cn)=true:=by simpa using hcn
         have hbq:Below w.heap.size w w14:=hbw13;have kC:=nS w14.heap.size w14.heap.size (.slice a4 us4.length c4) (.slice ta told.length tc) us4 told w14 (vQ _) ((HPT.out.keep HBL.out).mono HBL.out.size) (rS HT13.out (by have:=HLN.out;omega)) cn cm 0 hch;clear hD hpos hch;go_wp2_with fail;refine kC.mono ?_;rintro ec wc ⟨rfl,hbc⟩;have hbwc:Below w.heap.size w wc:=bt hbq hbc;clear kC;go_wp2;go_ret;exact⟨by simp,bal hbwc _⟩
       have b3:(y.err == 3)=false:=by simpa using h3
       by_cases h0:¬ y.err=0
       ·as_aux_lemma =>
        have b0:(y.err == 0)=false:=by simpa using h0
        have b0':(y.err != 0)=true:=by simpa using h0
        have HDD:Hid (D=kZ):=by
         rcases HCS.out with h|h|h
         ·rcases h with h|h|h
          ·exact absurd h h6
          ·exact absurd h h5
          ·exact absurd h.1 h3
         ·exact h.2
         ·exact absurd h.1 h0
        have hD:D=kZ:=HDD.out;have hpos:0<wt (rd us4) told:=by have:=HTD.out.2 [] (by rw[hD];simp[kZ,wt]);rwa [fU] at this
        obtain⟨cn,cm,hch,hcn⟩:=pS (oS HTK.out) hpos;have hcn':decide (0<cn)=true:=by simpa using hcn
        have hbq:Below w.heap.size w W13:=hbw13;have kC:=nS W13.heap.size W13.heap.size (.slice a4 us4.length c4) (.slice ta told.length tc) us4 told W13 (vQ _) ((HPT.out.keep HBL.out).mono HBL.out.size) (rS HT13.out (by have:=HLN.out;omega)) cn cm 0 hch;clear hD hpos hch;go_wp2_with fail;refine kC.mono ?_;rintro ec wc ⟨rfl,hbc⟩;have hbwc:Below w.heap.size w wc:=bt hbq hbc;clear kC;go_wp2;go_ret;exact⟨by simp,bal hbwc _⟩
       have h0:y.err=0:=by omega
       rw[h0] at y0
       obtain⟨vs,usd,lud,ldd,D',htl,hs2,htalk,hposd⟩:∃ vs usd lud ldd D',y.told=some (vs,usd,lud,ldd)/\Hs s2 (paid++[qF l (thr qu k0 k1 k2 k3 q4 m4 d4 q5 m5 d5 tu td tlo thi bits xa xc).x lud ldd])/\eY l (K.rr rs) (fun q=>K.xJ (K.prt l q (lG l))) dV (pld pl) (2 - k) (eU (K.nd ns) vs) (paid++[qF l (thr qu k0 k1 k2 k3 q4 m4 d4 q5 m5 d5 tu td tlo thi bits xa xc).x lud ldd])=some D'/\∀ o,0<wt D' o->0<wt D (vs++o):=by
        rcases HCS.out with h|h|h
        ·rcases h with h|h|h
         ·exact absurd h h6
         ·exact absurd h h5
         ·exact absurd h.1 h3
        ·exact absurd h0 h.1
        ·exact h.2
       obtain⟨gz,rfl,rfl,rfl,hvn,hv4,hgz1,hgz2,hrow⟩:=HTO.out vs usd lud ldd htl;have HVN:Hid (0<vs.length/\vs.length<=4096):=⟨dE.2 hvn,hv4⟩;have HRZ:Hid (K.RowI W13 gz vs):=hrow.keep HB13.out hgz2;have HGZ:Hid (w11.heap.size<=gz/\gz<w12.heap.size):=⟨hgz1,hgz2⟩;have HDS:Hid (Hs s2 (paid++[qF l (thr qu k0 k1 k2 k3 q4 m4 d4 q5 m5 d5 tu td tlo thi bits xa xc).x lud ldd])/\eY l (K.rr rs) (fun q=>K.xJ (K.prt l q (lG l))) dV (pld pl) (2 - k) (eU (K.nd ns) vs) (paid++[qF l (thr qu k0 k1 k2 k3 q4 m4 d4 q5 m5 d5 tu td tlo thi bits xa xc).x lud ldd])=some D'/\∀ o,0<wt D' o->0<wt D (vs++o)):=⟨hs2,htalk,hposd⟩;have y1:=(HY13.out 1 _ rfl).c
       have HN1:Hid (∀ j u,(vs.map (Value.int .i64))[j]? = some u->W13.cell? ((⟨gz,0,none⟩:Addr).add j)=some u):=fun j u hj=>(by
        rw[uA] at hj;obtain⟨x,hx,rfl⟩:=rP.1 hj;have e:(⟨gz,0,none⟩:Addr).add j=⟨gz,j,none⟩:=by unfold Addr.add;split <;> simp_all
        rw[e];exact HRZ.out.cells j x hx)
       have HN3:Hid (told.length+vs.length<=maxLen):=by have:=HLN.out;show _<=_;unfold maxLen;omega
       have HN4:Hid ((told.length+vs.length)*8<=140737488355328):=by have:=HLN.out;show _<=_;omega
       clear hrow hvn hv4 hgz1 hgz2 hs2 htalk hposd htl HTO HCS b6 b5 b3;go_upto_region 31 with fail;refine aF ?_;(iterate 12 go_step);refine uE _ rfl _ _ 37 rfl w4.heap.size 3 i3 (.int .i64 0) 1 8 underlying37 hi3 hz30 hz31 hz32 rfl (by decide) _ _ _ rfl HT13.out ⟨gz,0,none⟩ vs.length vs.length (vs.map (Value.int .i64)) rfl (by simp) HN1.out (fwQ vs) HVN.out.1 HN3.out HN4.out HBL.out.size W13.heap.size rfl ?_;intro gT capT w14 hown3 hgrow3 hat3 hglt3
       have HT14:Hid (w14.ownsRow w4.heap.size 3 1 (.slice (some ⟨gT,0,none⟩) (told.length+vs.length) capT) (told++vs).length ((told++vs).map (Value.int .i64))):=by
        rw[Hid,dJ,yY];exact hown3
       have q12:=HZ12.out;have q13:=HZ13.out;have q11:=HZ11.out;have q9:=HZ9.out;have q8:=HZ8.out;have q6:=HZ6.out;have hnt:∀ k,wr.heap.size<=k->(Value.slice ta told.length tc).ownBlock≠some k:=fun k h1 e=>by have:=(HTB.out k e).2;omega
       have HQ14:Hid (Bx w14 wr.heap.size [.int .i64 k0,.string k1,.int .i64 k2,.int .i64 k3,.slice q4 m4 d4,.slice q5 m5 d5,.int .i64 tu,.int .i64 td,.int .i64 tlo,.int .i64 thi,.slice na ns.length nc]):=bP HQ13.out hgrow3 (hnt _ (vQ _));have HY14:Hid (Bx w14 w12.heap.size [.int .i64 y.err,.slice (some ⟨gz,0,none⟩) vs.length vs.length,.int .i64 us2,.int .i64 lu2,.int .i64 ld2,.slice xa2 xn2 xc2]):=bP HY13.out hgrow3 (hnt _ (by omega))
       have HRZ4:Hid (K.RowI w14 gz vs):=by
        have hb:w14.heap[gz]? = W13.heap[gz]?:=hgrow3.block gz HRZ.out.lt (fun e=>hnt gz (by have:=HGZ.out;omega) e.symm);exact⟨fun j x hj=>(rZ (w:=W13) (a:=⟨gz,j,none⟩) hb).trans (HRZ.out.cells j x hj),fun j hj=>(jV (w:=W13) (a:=⟨gz,j,none⟩) hb).trans (HRZ.out.thaw j hj),uX HRZ.out.lt hgrow3.size⟩
       have HS14:Hid (w14.ownsRow w4.heap.size 41 18 (.slice (some ⟨g,0,none⟩) (ss'.length+1) cap) (ss' ++ [thr qu k0 k1 k2 k3 q4 m4 d4 q5 m5 d5 tu td tlo thi bits xa xc]).length (sfl (ss' ++ [thr qu k0 k1 k2 k3 q4 m4 d4 q5 m5 d5 tu td tlo thi bits xa xc]))):=by
        refine oZ HS13.out hgrow3 (fun g' hg e=>?_);obtain⟨c1,f1,e1⟩:=aT HS13.out g' hg;obtain⟨c2',f2,e2⟩:=aT HT13.out g' e;rw[e1] at e2;simp at e2
       have HB14:Hid (Below w4.heap.size w4 w14):=alJ HBL.out (vQ _) hgrow3 (fun g hg=>(HTB.out g hg).1);have hbw14:Below w.heap.size w w14:=bt hbw4 HB14.out;have kN:=b4J B w14.heap.size ⟨.int .i64 k0,.string k1,.int .i64 k2,.int .i64 k3,.slice q4 m4 d4,.slice q5 m5 d5,qu,tu,td,tlo,thi,.slice na ns.length nc,ns⟩ (.slice (some ⟨gz,0,none⟩) vs.length vs.length) vs w14 (bQ hB hbw14.size) (vQ _) (K.Qm.at HQM.out.1 hB hbw14) (HQM.out.2.at hB hbw14) (fpX HRZ4.out (by have:=HVN.out;omega) _ HRZ4.out.lt) _ rfl;have y1':=(HY14.out 1 _ rfl).c;clear hown3 hgrow3 hat3 hglt3 hnt HQ13 HY13 HT13 HS13 HRZ HN1 q12 q13 q11 q9 q8 q6 y0 y1 x11;go_upto_region 32 with fail;refine aF ?_;refine bM rfl 66 _ rfl wr.heap.size 0 rfl _ _ (aiQ HQ14.out) underlying66 rfl akJ ?_;go_wp2_with fail;refine kN.mono ?_;rintro e15 w15 ⟨rfl,hb15⟩;have HB15:Hid (Below w4.heap.size w4 w15):=bt HB14.out hb15;have HS15:Hid (w15.ownsRow w4.heap.size 41 18 (.slice (some ⟨g,0,none⟩) (ss'.length+1) cap) (ss' ++ [thr qu k0 k1 k2 k3 q4 m4 d4 q5 m5 d5 tu td tlo thi bits xa xc]).length (sfl (ss' ++ [thr qu k0 k1 k2 k3 q4 m4 d4 q5 m5 d5 tu td tlo thi bits xa xc]))):=nV HS14.out (xX hb15) (N:=fun _=>False) (fun _ _ h=>h);have HT15:Hid (w15.ownsRow w4.heap.size 3 1 (.slice (some ⟨gT,0,none⟩) (told.length+vs.length) capT) (told++vs).length ((told++vs).map (Value.int .i64))):=nV HT14.out (xX hb15) (N:=fun _=>False) (fun _ _ h=>h);clear kN y1' HS14 HT14 HB14 hb15;go_wp2
       go_roundw
       case rel=>exact⟨k+1,eU (K.nd ns) vs,ss' ++ [thr qu k0 k1 k2 k3 q4 m4 d4 q5 m5 d5 tu td tlo thi bits xa xc],told++vs,paid++[qF l (thr qu k0 k1 k2 k3 q4 m4 d4 q5 m5 d5 tu td tlo thi bits xa xc).x lud ldd],s2,zs,D',rfl,by go_num,by omega,HB15,HS15,HT15,HSN,HHN,⟨by have:=HL9.out;simp;omega,by have:=HLN.out;have:=HVN.out;simp;omega,by have:=HLN.out;simp;omega,by omega⟩,⟨HRN.out,HDS.out.1⟩,⟨by rw[show 3 - (k+1)=2 - k by omega];exact HDS.out.2.1,fun o ho=>by rw[cM];exact HTD.out.2 _ (HDS.out.2.2 o ho)⟩⟩
       case measure=>simp[intOf];omega
