import Derived.Test.YtcaplmodgbpchaaGreatDoorQq40
open Go.Proofs.Tryz
open Go.Value(int)
open Go.IntKind(i64)
set_option linter.unusedSimpArgs false
set_option maxHeartbeats 16000000
set_option maxRecDepth 100000
namespace Go.Proofs.YtcaplmodgbpchaaGreatDoor
section
open Go.RowKit Ds
open K (Cl)
open K.P (HSt Keeps xX lX vZ jZ gZ Ev Sn oA tZ TwoB FivB Stt stv mD eR wl fH aK bK yX cK jO tX iY dR sZ cZ qV ev aeJ)
attribute [local go_sem] bL
theorem e7Q (bm:mD)(B nb:Nat)(s s':HSt)(dv nv cv tv:Value)(l:List K.Ds.aQ)(rs:List K.Rw)(pn:ByteArray)(v0 v1 v2 v3 v4 v5:Value)(xa:Option Addr)(xc:Nat)(bits:List Int)(q:K.Ds.Qu)(u d lo hi:Int)(w:World)
  (hS:Stt w s dv nv) (hh:s.up=true) (gq:s.brk=false) (hB:B<=w.heap.size) (hp:K.kQ w B cv l) (hr:K.nQ w B tv rs) (hq:K.Qm w B q v0 v1 v2 v3 v4 v5) (gp:pU w B nb (.slice xa bits.length xc) bits) (di:xa=none->xc=0) (k7:zX lo) (k4:zX hi) (hs:pn.size<=9223372036854775807)
  (ff:ByteArray) (iq:Int) (gt:l[0]? = some (ff,iq)) (z ez:Int) (hz:K.iU (K.prt l q ff)=(z,ez)) (ls:List (List Pt)) (Q O e1:Int) (hA:eA u d lo hi l (K.rr rs) q=(ls,Q,O,e1)) (er:Int) (t2:Option (List Int × Nat))
  (h4:gZ 0 s (.ask (aG e1 bits) (tZ pn z ez Q O) (fZ ls bits 0 []))=(s',⟨er,t2,[]⟩)) :
  Calls prog 16 #[stv s dv nv,.agg #[cv,tv],oA pn v0 v1 v2 v3 v4 v5 u d lo hi (.slice xa bits.length xc)] w (b2J dv nv s' er (fZ ls bits 0 []) Q O w):=by
 have ji:Hid mD:=bm;have HP:=qQ hp;have HQ:=qQ hq;have fq:=qQ gp;have jo:=qQ di;have fu:=qQ gt;have HZ:=qQ hz;have HA:=qQ hA;have e3:=qQ h4;obtain⟨disk,left,up,brk,done⟩:=s;have HS:=qQ hS;have HU:Hid ((HSt.mk disk left up brk done).up=true/\(HSt.mk disk left up brk done).brk=false):=⟨hh,gq⟩;obtain⟨da,dc,rfl,_⟩:=hS.dk.1.slice;obtain⟨na,nc,rfl,_⟩:=hS.dn.slice;obtain⟨ca,cc,rfl,_⟩:=hp.slice;obtain⟨ta,tc,rfl,_⟩:=hr.slice;obtain⟨kk,kc,kl,kh,ka,kn,kd,kb,km,kp,rfl,rfl,rfl,rfl,rfl,rfl⟩:=hq.shape;obtain⟨W0,gm⟩:∃ W0,((((w.alloc (.cells #[.slice da disk.length dc,int i64 left,.bool up,.bool brk,.slice na done.length nc] 66)).alloc (.cells #[.slice ca l.length cc,.slice ta rs.length tc] 25)).alloc (.cells #[.string pn,int i64 kk,.string kc,int i64 kl,int i64 kh,.slice ka kn kd,.slice kb km kp,int i64 u,int i64 d,int i64 lo,int i64 hi,.slice xa bits.length xc] 55)).alloc (.cells #[.slice none 0 0,int i64 0,.bool false,.bool false,.slice none 0 0] 66)).alloc (.cells #[.slice none 0 0,int i64 0,int i64 0,int i64 0] 39)=W0:=⟨_,rfl⟩
 have H:Hid (AkM w W0 ⟨disk,left,up,brk,done⟩ (.slice da disk.length dc) (.slice na done.length nc) (.slice ca l.length cc) (.slice ta rs.length tc) [.string pn,int i64 kk,.string kc,int i64 kl,int i64 kh,.slice ka kn kd,.slice kb km kp,int i64 u,int i64 d,int i64 lo,int i64 hi,.slice xa bits.length xc]):=by
  rw[<-gm];exact⟨bal (bal (bal (bal (ba _ _) _) _) _) _,((((FivB.new w _ _ _ _ _ 66 _ rfl).below (ba _ _)).below (ba _ _)).below (ba _ _)).below (ba _ _),(((TwoB.new _ _ _ 25 _ (by simp)).below (ba _ _)).below (ba _ _)).below (ba _ _),((Bx.new _ [.string pn,int i64 kk,.string kc,int i64 kl,int i64 kh,.slice ka kn kd,.slice kb km kp,int i64 u,int i64 d,int i64 lo,int i64 hi,.slice xa bits.length xc] 55 (by simp)).at (ba _ _)).at (ba _ _),(FivB.new _ _ _ _ _ _ 66 _ (by simp)).below (ba _ _),Bx.new _ [.slice none 0 0,int i64 0,int i64 0,int i64 0] 39 (by simp)⟩
 have kA:=e3X B u d lo hi (.slice ca l.length cc) (.slice ta rs.length tc) _ _ _ _ _ _ l rs q W0 (bQ hB H.out.b.size) (hp.keep (H.out.b.mono hB)) (hr.keep (H.out.b.mono hB)) (hq.at hB H.out.b) k7 k4 ls Q O e1 hA;have q1:=(H.out.qu 1 _ rfl).c;have q2:=(H.out.qu 2 _ rfl).c;have q3:=(H.out.qu 3 _ rfl).c;have q4:=(H.out.qu 4 _ rfl).c;have q5:=(H.out.qu 5 _ rfl).c;have q6:=(H.out.qu 6 _ rfl).c;have q7:=(H.out.qu 7 _ rfl).c;have q8:=(H.out.qu 8 _ rfl).c;have q9:=(H.out.qu 9 _ rfl).c;have kw:=(H.out.qu 10 _ rfl).c;have t0:=H.out.tb.c0;have t1:=H.out.tb.c1;clear hS hp hq gp di gt hz hA h4 bm hh gq;go_enter func16,ntmps16;go_wp2_with fail;clear gm;refine kA.mono ?_;rintro x w1 ⟨v,zs,rfl,gw,ej,i1,eh⟩;clear kA q1 q2 q3 q4 q5 q6 q7 q8 q9 kw t0 t1;obtain⟨pa,pc,rfl,_⟩:=id ej;obtain⟨W2,ec⟩:∃ W2,w1.alloc (.cells #[int i64 Q,int i64 O] 37)=W2:=⟨_,rfl⟩;have d5:xQ w1 W2:=ec▸ba _ _;have S:=qQ ((H.out.at eh).at d5);have dw:Hid (TwoB W2 w1.heap.size (int i64 Q) (int i64 O)):=ec▸TwoB.new _ _ _ 37 _ rfl;have jj:Hid (w.heap.size+5<=w1.heap.size):=by have:=H.out.lt;have:=eh.size;exact(by omega:w.heap.size+5<=w1.heap.size)
 have aw:Hid (rds zs=ls/\fJ W2 (w.heap.size+5) (.slice pa zs.length pc) zs/\zs.length<=4096):=⟨gw,(ej.mono (by have:=H.out.lt;omega)).keep d5,i1⟩;have cq:Hid (yX (fun k=>k=w.heap.size+1+1+1\/k=w.heap.size+1+1+1+1) (.slice da disk.length dc)/\yX (fun k=>k=w.heap.size+1+1+1\/k=w.heap.size+1+1+1+1) (.slice na done.length nc)):=HS.out.avd (fun m hm=>by omega);clear eh d5 gw ej i1 H;by_cases h0:¬ e1=0
 ·have md:(e1 != 0)=true:=by simpa using h0
  have HN:Hid (s' = ⟨disk,left,up,brk,done⟩/\er=e1):=by
   have h:=b2Z HU.out.1 HU.out.2 e3.out (by unfold aG;rw[jQ h0];exact h0);unfold aG at h;rw[jQ h0] at h;exact h
  obtain⟨s0,s1,s2,s3,s4,_,_,_,_,_,_⟩:=S.out.st;obtain⟨r0,r1,r2,r3,r4,f0,f1,f2,f3,f4,_⟩:=S.out.rs;obtain⟨⟨x0,x1,x2,x3⟩,y0,y1,y2,y3⟩:=rU S.out.rt;have jk:=qQ h0;clear h0;go_wp2;obtain⟨F,T,_,_⟩:=S.out.fin (.slice da disk.length dc) (int i64 left) (.bool up) (.bool brk) (.slice na done.length nc) (.slice none 0 0) (int i64 0) (int i64 0) (int i64 0);have G:=S.out.no (HS.out.at S.out.b) (fun _ _ h1 h2=>⟨h1,h2⟩) cq.out (fZ ls bits 0 []) Q O e1 jk.out;rw[HN.out.1,HN.out.2];exact eQ (by simp[results,results16,go_sem,F.c0,F.c1,F.c2,F.c3,F.c4,(T 0 _ rfl).c,(T 1 _ rfl).c,(T 2 _ rfl).c,(T 3 _ rfl).c]) rfl G
 ·obtain rfl:e1=0:=by omega
  go_upto_region 4 with fail;clear ec h0;have dj:=bwZ HA.out HQ.out;have a7:=(aeZ HA.out).1;have ko:zs.length=ls.length:=by rw[<-aw.out.1,uK]
  have ao:=aw.out.2.1.dss (by omega);obtain⟨b,o,fd,fe,bp,rfl,hb,ai,d1,hP⟩:=ao.get (vQ _) (uQ _ _) (i:=0) (by omega);have gv:(rds zs)[0]? = some (rd bp):=by rw[rds,mV,ai];rfl
  have a6:=(a7 (rd bp) (by rw[<-aw.out.1];exact qX gv)).1;obtain⟨l2,f8⟩:=bxX a6 bits;obtain⟨e2,eo⟩:∃ e2,xU bits 0=e2:=⟨_,rfl⟩;rw[eo] at f8;have gd:=(S.out.qu 11 _ rfl).c;have ge:=(S.out.qu 11 _ rfl).lt;have e4:xQ w W2.drew:=S.out.b.drew;have kR:=b2X W2.drew.heap.size B (.slice fd bp.length fe) (.slice xa bits.length xc) bp bits 0 W2.drew (vQ _) (hP.keep (uQ _ _).drew) ((fq.out.at hB e4).mono (bQ hB e4.size) (.inr (vQ _))) (by omega) l2 e2 f8;have g8:=qQ a7;have ct:=qQ eo;have gc:W2.cell? ⟨b,o,none⟩=some (.slice fd bp.length fe):=by simpa using d1
  have z1:(0:Int)<(zs.length:Int):=by have:=dj.1;omega
  have z2:0<zs.length:=by omega
  have go:b<W2.heap.size:=hb;clear dj a7 ko ao ai gv a6 f8 eo e4 hP d1 hb
  go_region_held3 (fun w'=>w'.cell? ⟨b,o,none⟩=some (.slice fd bp.length fe)/\w'.cell? ⟨w.heap.size+1+1,11,none⟩=some (.slice xa bits.length xc)) (first|assumption|(simp[go_sem, *];done))
   ((go_at_call 36;refine kR.mono ?_;rintro x w6 ⟨nk,m1,rfl,_,⟨ng,nh,gx,_⟩,d6,_⟩;subst gx;have g1:=(d6.cell (p:=⟨b,o,none⟩) go).trans gc;have g2:=(d6.cell (p:=⟨w.heap.size+1+1,11,none⟩) ge).trans gd))
  clear kR gc gd g1 g2;have B6:xQ W2 w6:=bt (uQ _ _).drew d6;have bg:=qQ B6;clear d6 go ge B6;by_cases h2:¬ e2=0
  ·have mg:(e2 != 0)=true:=by simpa using h2
   have HN:Hid (s' = ⟨disk,left,up,brk,done⟩/\er=e2):=by
    have h:=b2Z HU.out.1 HU.out.2 e3.out (by unfold aG;rw[zQ (by simp),ct.out];exact h2);unfold aG at h;rw[zQ (by simp),ct.out] at h;exact h
   have al:=S.out.at bg.out;obtain⟨s0,s1,s2,s3,s4,_,_,_,_,_,_⟩:=al.st;obtain⟨r0,r1,r2,r3,r4,f0,f1,f2,f3,f4,_⟩:=al.rs;obtain⟨⟨x0,x1,x2,x3⟩,y0,y1,y2,y3⟩:=rU al.rt;have jl:=qQ h2;have al:Hid _:=al;clear h2;go_wp2;obtain⟨F,T,_,_⟩:=al.out.fin (.slice da disk.length dc) (int i64 left) (.bool up) (.bool brk) (.slice na done.length nc) (.slice none 0 0) (int i64 0) (int i64 0) (int i64 0);have G:=al.out.no (HS.out.at al.out.b) (fun _ _ h1 h2=>⟨h1,h2⟩) cq.out (fZ ls bits 0 []) Q O e2 jl.out;rw[HN.out.1,HN.out.2];exact eQ (by simp[results,results16,go_sem,F.c0,F.c1,F.c2,F.c3,F.c4,(T 0 _ rfl).c,(T 1 _ rfl).c,(T 2 _ rfl).c,(T 3 _ rfl).c]) rfl G
  ·obtain rfl:e2=0:=by omega
   obtain⟨df,dh⟩:=bxZ ct.out;have cr:Hid (kY bits=false/\bits.length<=65536):=⟨df,dh⟩;obtain⟨W7,ef⟩:∃ W7,w6.alloc (.cells #[int i64 2,.string pn,int i64 0,int i64 Q,int i64 O] 72)=W7:=⟨_,rfl⟩;have dr:Hid (xQ W2 W7):=bt bg.out (ef▸ba _ _);have fs:Hid (FivB W7 w6.heap.size (int i64 2) (.string pn) (int i64 0) (int i64 Q) (int i64 O)):=ef▸FivB.new _ _ _ _ _ _ 72 _ rfl;have U:=qQ (S.out.at dr.out);have c0:=((S.out.at bg.out).qu 0 _ rfl).c;have l0:=(dw.out.below bg.out).c0;have l1:=(dw.out.below bg.out).c1;clear h2 df dh;go_upto_region 8 with fail;clear ef c0 l0 l1;have gh:0<l.length:=(fQ.1 fu.out).1;have cb:B<=W7.heap.size:=bQ hB U.out.b.size;have f7:K.kQ W7 B (.slice ca l.length cc) l:=HP.out.keep (U.out.b.mono hB);obtain⟨b',o',nm,sz,rfl,mi,ai,c1,_,_⟩:=f7.get cb (uQ _ _) gh;obtain⟨rfl,rfl⟩:nm=ff/\sz=iq:=by have:=fu.out;rw[this] at ai;simpa [eq_comm] using ai
   have ga:W7.cell? ⟨b',o',none⟩=some (.string nm):=by simpa using c1
   have k2:=K.e4X l q nm W7.drew B (.slice (some ⟨b',o',none⟩) l.length cc) _ _ _ _ _ _ z ez cb (f7.keep (uQ _ _).drew) (HQ.out.at hB U.out.b.drew) HZ.out;have t0:=U.out.tb.c0;have q1:=(U.out.qu 1 _ rfl).c;have q2:=(U.out.qu 2 _ rfl).c;have q3:=(U.out.qu 3 _ rfl).c;have q4:=(U.out.qu 4 _ rfl).c;have q5:=(U.out.qu 5 _ rfl).c;have q6:=(U.out.qu 6 _ rfl).c;have ik:w.heap.size+1<W7.heap.size:=U.out.tb.lt;have ay:w.heap.size+1+1<W7.heap.size:=(U.out.qu 0 _ rfl).lt;have ij:b' < W7.heap.size:=by omega
   clear f7 ai c1 cb
   go_region_held3 (fun w'=>w'.cell? ⟨w.heap.size+1,0,none⟩=some (.slice (some ⟨b',o',none⟩) l.length cc)/\w'.cell? ⟨w.heap.size+1+1,1,none⟩=some (int i64 kk)/\w'.cell? ⟨w.heap.size+1+1,2,none⟩=some (.string kc)/\w'.cell? ⟨w.heap.size+1+1,3,none⟩=some (int i64 kl)/\w'.cell? ⟨w.heap.size+1+1,4,none⟩=some (int i64 kh)/\w'.cell? ⟨w.heap.size+1+1,5,none⟩=some (.slice ka kn kd)/\w'.cell? ⟨w.heap.size+1+1,6,none⟩=some (.slice kb km kp)/\w'.cell? ⟨b',o',none⟩=some (.string nm)) (first|assumption|(simp[go_sem, *];done))
    ((go_at_call 37;refine k2.mono ?_;rintro x3 w8 jx;obtain⟨rfl,ae⟩:=jx;have g0:=(ae.cell (p:=⟨w.heap.size+1,0,none⟩) ik).trans t0;have g1:=(ae.cell (p:=⟨w.heap.size+1+1,1,none⟩) ay).trans q1;have g2:=(ae.cell (p:=⟨w.heap.size+1+1,2,none⟩) ay).trans q2;have g3:=(ae.cell (p:=⟨w.heap.size+1+1,3,none⟩) ay).trans q3;have g4:=(ae.cell (p:=⟨w.heap.size+1+1,4,none⟩) ay).trans q4;have g5:=(ae.cell (p:=⟨w.heap.size+1+1,5,none⟩) ay).trans q5;have g6:=(ae.cell (p:=⟨w.heap.size+1+1,6,none⟩) ay).trans q6;have g7:=(ae.cell (p:=⟨b',o',none⟩) ij).trans ga))
   have B8:xQ W7 w8:=bt (uQ _ _).drew ae;have fo:=qQ (bt dr.out B8);have du:=qQ (fs.out.below B8);have cw:=qQ bg.out.size;clear k2 q1 q2 q3 q4 q5 q6 t0 g0 g1 g2 g3 g4 g5 g6 g7 ik ay ij gh ga ae B8 fs dr U;go_upto_if 73 with fail
   go_cut [] (fun wx=>Hid (xQ W2 wx)/\Hid (FivB wx w6.heap.size (int i64 (tZ pn z ez Q O).1) (.string (tZ pn z ez Q O).2.1) (int i64 (tZ pn z ez Q O).2.2.1) (int i64 (tZ pn z ez Q O).2.2.2.1) (int i64 (tZ pn z ez Q O).2.2.2.2)))
   case first =>
    by_cases c:ez=0
    ·have c1:(ez == 0)=true:=by simpa using c
     have dy:Hid (tZ pn z ez Q O=(3,pn,z,Q,O)):=by unfold tZ;exact jQ c
     obtain⟨q0,_,q2,_,_,g0,_,g2,_,_,_⟩:=du.out;clear c;go_wp2;go_meet;rw[dy.out];exact⟨bs (bs fo.out cw.out _) cw.out _,(du.out.t0 _).t2 _⟩
    ·have c1:(ez == 0)=false:=by simpa using c
     have dy:Hid (tZ pn z ez Q O=(2,pn,0,Q,O)):=by unfold tZ;exact zQ c
     clear c;go_wp2;go_meet;rw[dy.out];exact⟨fo.out,du.out⟩
   case rest =>
    obtain⟨fp,ft⟩:=hcut;obtain⟨e,ci⟩:∃ e,tZ pn z ez Q O=e:=⟨_,rfl⟩;obtain⟨s1,Y,bm⟩:∃ s1 Y,jZ ⟨disk,left,up,brk,done⟩ e=(s1,Y):=⟨_,_,rfl⟩;have gz:e.2.1.size<=9223372036854775807:=by rw[<-ci,bwJ];exact hs
    have gy:-9223372036854775808<=e.2.2.1/\e.2.2.1<=9223372036854775807:=by rw[<-ci];exact bxQ (aeJ HZ.out)
    have c9:Hid (s' = s1/\((Y≠0/\er=Y)\/Y=0/\((fZ ls bits 0 []=none/\er=6)\/∃ t,fZ ls bits 0 []=some t/\er=0))):=by
     have h:=e3.out;rw[show aG 0 bits=0 from by unfold aG;rw[zQ (by simp)];exact ct.out,ci] at h;have h2:=e5J HU.out.1 HU.out.2 h;rw[bm] at h2;exact h2
    rw[ci] at ft;obtain⟨ed,en,ep,eu,ew⟩:=e;have c6:=qQ (S.out.at fp.out);have ib:=eR ji.out ⟨disk,left,up,brk,done⟩ s1 (.slice da disk.length dc) (.slice na done.length nc) (ed,en,ep,eu,ew) Y wc (HS.out.at c6.out.b) gz gy bm;obtain⟨a0,a1,a2,a3,a4,b0,b1,b2,b3,b4,_⟩:=c6.out.st;obtain⟨g0,g1,g2,g3,g4,_,_,_,_,_,_⟩:=ft.out;clear ci gz gy bm;go_wp2_with fail;refine ib.mono ?_;rintro x w9 ⟨m2,ms,hx,d4,ei,cz⟩;obtain⟨aa,ac,rfl,_⟩:=d4.dk.1.slice;obtain⟨af,ag,rfl,_⟩:=d4.dn.slice;obtain⟨y,D,V,I,C⟩:=s1;change x=.returned (.tuple #[.agg #[.slice aa y.length ac,int i64 D,.bool V,.bool I,.slice af C.length ag],int i64 Y]) at hx;subst hx;have bz:=qQ (c6.out.at ei);have dt:=qQ (bt fp.out ei);clear ib a0 a1 a2 a3 a4 b0 b1 b2 b3 b4 g0 g1 g2 g3 g4;obtain⟨E,cd⟩:∃ E,((((w9.setCell ⟨w.heap.size,0,none⟩ (.slice aa y.length ac)).setCell ⟨w.heap.size,1,none⟩ (int i64 D)).setCell ⟨w.heap.size,2,none⟩ (.bool V)).setCell ⟨w.heap.size,3,none⟩ (.bool I)).setCell ⟨w.heap.size,4,none⟩ (.slice af C.length ag)=E:=⟨_,rfl⟩;have h5:=c6.out.b.size;have ah:Hid (AkM w E ⟨y,D,V,I,C⟩ (.slice aa y.length ac) (.slice af C.length ag) (.slice (some ⟨b',o',none⟩) l.length cc) (.slice ta rs.length tc) [.string pn,int i64 kk,.string kc,int i64 kl,int i64 kh,.slice ka kn kd,.slice kb km kp,int i64 u,int i64 d,int i64 lo,int i64 hi,.slice xa bits.length xc]):=by rw[<-cd];exact AkM.sto (s1:=⟨y,D,V,I,C⟩) bz.out
    have dx:Hid (∀ N:Nat->Prop,(∀ m,N m->m<w.heap.size)->yX N (.slice da disk.length dc)->yX N (.slice na done.length nc)->yX N (.slice aa y.length ac)/\yX N (.slice af C.length ag)):=fun N h=>cz N (fun m hm=>lQ (h m hm) h5);have k8:=c6.out.lt;have cu:Hid (yX (fun k=>k=w.heap.size+1+1+1\/k=w.heap.size+1+1+1+1) (.slice aa y.length ac)/\yX (fun k=>k=w.heap.size+1+1+1\/k=w.heap.size+1+1+1+1) (.slice af C.length ag)):=cz _ (fun m hm=>by omega) cq.out.1 cq.out.2;have ea:=HS.out.avd (N:=fun k=>k=w.heap.size) (fun m hm=>by omega);have eb:=cz (fun k=>k=w.heap.size) (fun m hm=>by omega) ea.1 ea.2;have dz:Hid (Stt E ⟨y,D,V,I,C⟩ (.slice aa y.length ac) (.slice af C.length ag)):=d4.kp (N:=fun k=>k=w.heap.size) (by rw[<-cd];exact bK (vZ w9 (fun k=>k=w.heap.size)) rfl _ _ _ _ _) eb.1 eb.2;have jt:Hid (fJ E (w.heap.size+5) (.slice (some ⟨b,o,none⟩) zs.length pc) zs):=by rw[<-cd];exact(((((aw.out.2.1.keep dt.out).set (by omega)).set (by omega)).set (by omega)).set (by omega)).set (by omega)
    have two:∀ {X:World} (k:Nat) (x:Value),TwoB X w1.heap.size (int i64 Q) (int i64 O)->TwoB (X.setCell ⟨w.heap.size,k,none⟩ x) w1.heap.size (int i64 Q) (int i64 O):=fun k x h=>h.gb (fL _ _ k x) (by have:=jj.out;simp;omega);have jn:Hid (TwoB E w1.heap.size (int i64 Q) (int i64 O)):=by rw[<-cd];exact two _ _ (two _ _ (two _ _ (two _ _ (two _ _ (dw.out.below dt.out)))))
    clear cz ea eb d4 h5 k8 two ei dt;by_cases h3:¬ Y=0
    ·have mh:(Y != 0)=true:=by simpa using h3
     have HN:Hid (s' = ⟨y,D,V,I,C⟩/\er=Y):=by
      refine⟨c9.out.1,?_⟩;rcases c9.out.2 with h|h
      ·exact h.2
      ·exact absurd h.1 h3
     obtain⟨s0,s1,s2,s3,s4,_,_,_,_,_,_⟩:=ah.out.st;obtain⟨r0,r1,r2,r3,r4,f0,f1,f2,f3,f4,_⟩:=ah.out.rs;obtain⟨⟨x0,x1,x2,x3⟩,y0,y1,y2,y3⟩:=rU ah.out.rt;obtain⟨a0,a1,a2,a3,a4,b0,b1,b2,b3,b4,_⟩:=bz.out.st;have jm:=qQ h3;clear h3;go_wp2;obtain⟨F,T,_,_⟩:=ah.out.fin (.slice aa y.length ac) (int i64 D) (.bool V) (.bool I) (.slice af C.length ag) (.slice none 0 0) (int i64 0) (int i64 0) (int i64 0);have G:=ah.out.no dz.out dx.out cu.out (fZ ls bits 0 []) Q O Y jm.out;rw[HN.out.1,HN.out.2];exact eQ (by simp[results,results16,go_sem,F.c0,F.c1,F.c2,F.c3,F.c4,(T 0 _ rfl).c,(T 1 _ rfl).c,(T 2 _ rfl).c,(T 3 _ rfl).c]) rfl G
    ·obtain rfl:Y=0:=by omega
     have b6:Hid (s' = ⟨y,D,V,I,C⟩/\((fZ ls bits 0 []=none/\er=6)\/∃ t,fZ ls bits 0 []=some t/\er=0)):=by
      refine⟨c9.out.1,?_⟩;rcases c9.out.2 with h|h
      ·exact absurd rfl h.1
      ·exact h.2
     obtain⟨a0,a1,a2,a3,a4,b0,b1,b2,b3,b4,_⟩:=bz.out.st;obtain⟨l0,l1,_,_,_⟩:=jn.out;clear h3 c9;go_upto_region 15 with fail;clear cd a0 a1 a2 a3 a4 b0 b1 b2 b3 b4 l0 l1;obtain⟨i3,k5,hw,hy,i0⟩:=pZ e6Z;have k0:fZ (rds zs) bits 0 []=fZ ls bits 0 []:=by rw[aw.out.1]
     have db:=qQ k0;have jp:Hid (Tel (rds zs)):=by rw[aw.out.1];exact g8.out
     obtain⟨WO,eg⟩:∃ WO,E.alloc (.cells #[.slice none 0 0,int i64 0,int i64 Q,int i64 O] 39)=WO:=⟨_,rfl⟩;have jg:Hid (Bx WO E.heap.size [.slice none 0 0,int i64 0,int i64 Q,int i64 O]):=eg▸Bx.new _ [.slice none 0 0,int i64 0,int i64 Q,int i64 O] 39 rfl;have js:Hid (xQ E WO):=eg▸ba _ _;have li:zs.length<=4096:=aw.out.2.2;go_wp2
     go_loopw [92] (fun iv wr=>∃ (i R:Nat) (M:List Int) (va:Option Addr) (vc:Nat),iv=int i64 (i:Int)/\i<=zs.length/\R<=bits.length/\Hid (M.length=i/\fZ (rds zs) bits 0 []=fZ ((rds zs).drop i) bits R M)/\Hid (xQ E wr)/\Hid (Bx wr E.heap.size [.slice va M.length vc,int i64 (R:Int),int i64 Q,int i64 O])/\Hid (wr.ownsRow (E.heap.size+1) 3 1 (.slice va M.length vc) M.length (wl M))) (fun iv _=>zs.length - (intOf iv).toNat)
     case atStart=>exact⟨0,0,[],none,0,rfl,dQ _,dQ _,⟨rfl,by simp⟩,js,jg,⟨rfl,.inl ⟨rfl,rfl⟩⟩⟩
     case round =>
      obtain⟨i,R,M,va,vc,rfl,hi,kg,au,bi,c7,c8⟩:=hrel;clear eg;by_cases h1:i<zs.length
      ·have ao:=(jt.out.keep bi.out).dss (by omega)
       obtain⟨b2,o2,ks,kt,bq,he,d5,ai,d1,hP⟩:=ao.get (vQ _) (uQ _ _) h1;cases he;have ek:(rds zs)[i]? = some (rd bq):=by rw[rds,mV,ai];rfl
       have a7:=jp.out (rd bq) (qX ek);have J:Hid _:=ah.out.at bi.out;have e9:xQ w wr:=J.out.b;have e8:=e6J ((fq.out.at hB e9).2 cr.out.2) jo.out kg;obtain⟨A,hA⟩:∃ A,(if xc=R then xa else xa.map (fun p=>p.add R))=A:=⟨_,rfl⟩;rw[hA] at e8;have ch:(bits.drop R).length=bits.length - R:=pF;have cj:=e6X a7.1 (xB cr.out.1 R) (by rw[ch];have:=cr.out.2;omega);obtain⟨lx,et⟩:∃ lx,iG (cV (rd bq)) 1 (bits.drop R)=lx:=⟨_,rfl⟩;rw[et] at cj;have kR:=b2X wr.heap.size B (.slice ks bq.length kt) (.slice A (bits.length - R) (xc - R)) bq (bits.drop R) 1 wr (vQ _) hP ((pU.of e8).mono (bQ hB e9.size) (.inr (vQ _))) (by omega) lx 0 cj;have fv:=qQ et;have fr:=qQ ek;have jq:=qQ a7.2;have ky:=(J.out.qu 11 _ rfl).c;obtain⟨⟨p0,p1,_,_⟩,_,_,_,_⟩:=rU c7.out;have z1:(i:Int)<(zs.length:Int):=by omega
       clear ao ai ek a7 e9 e8 ch cj et hP;go_wp2_with fail;refine kR.mono ?_;rintro x w5 ⟨nj,ax,rfl,aq,d3,cf,ey⟩;obtain⟨n7,kz,rfl,_⟩:=id d3;have a9:=qQ (bt bi.out cf);have am:=qQ (c7.out.at cf);have b5:=qQ (sZ c8.out (cZ cf) (by simp));clear kR ky p0 p1 hA J;cases hn:cV (rd bq) (bits.drop R) with
       | none =>
        have hz:ax=[]:=by
         have h:=fv.out;rw[o8 hn] at h;rw[<-h] at aq;exact yS.1 aq
        subst hz
        have HN:Hid (fZ ls bits 0 []=none):=by
         rw[Hid,<-db.out,au.out.2,eV (by rw[uK];exact h1)];have e:=(fQ.1 fr.out).2;rw[e,fZ,hn]
        have fw:Hid (s' = ⟨y,D,V,I,C⟩/\er=6):=by
         refine⟨b6.out.1,?_⟩;rcases b6.out.2 with h|⟨t,h,_⟩
         ·exact h.2
         ·rw[HN.out] at h;cases h
        have J:=ah.out.at a9.out;obtain⟨s0,s1,s2,s3,s4,_,_,_,_,_,_⟩:=J.st;obtain⟨r0,r1,r2,r3,r4,f0,f1,f2,f3,f4,_⟩:=J.rs;obtain⟨⟨x0,x1,x2,x3⟩,y0,y1,y2,y3⟩:=rU J.rt;have J:Hid _:=J;clear hn aq d3 cf ey;go_wp2;obtain⟨F,T,_,_⟩:=J.out.fin (.slice aa y.length ac) (int i64 D) (.bool V) (.bool I) (.slice af C.length ag) (.slice none 0 0) (int i64 0) (int i64 0) (int i64 0);have G:=J.out.no (dz.out.at a9.out) dx.out cu.out (fZ ls bits 0 []) Q O 6 (by decide);rw[fw.out.1,fw.out.2];exact eQ (by simp[results,results16,go_sem,F.c0,F.c1,F.c2,F.c3,F.c4,(T 0 _ rfl).c,(T 1 _ rfl).c,(T 2 _ rfl).c,(T 3 _ rfl).c]) rfl G
       | some v =>
        obtain⟨oo,k,r⟩:=v;obtain⟨p,hp,gu⟩:=buX hn;obtain⟨zz,hz⟩:=jq.out p hp;obtain rfl:oo=[zz]:=by rw[<-gu,hz]
        obtain⟨j,rfl,hj,_⟩:=bmZ hn;have ch:(bits.drop R).length=bits.length - R:=pF;rw[ch] at hj;have em:rd ax=[([zz],(j:Int))]:=by rw[aq,<-fv.out,t8 hn];rfl
        have gi:ax.length=1:=by rw[<-yY,em];rfl
        obtain⟨yb,yo,n1,im,ir,k1,kf,hv,gr,c0,c1,jy⟩:=d3.get (vQ _) (uQ _ _) (i:=0) (by omega)
        have kj:ir=[zz]/\k1=(j:Int):=by
         have h:(rd ax)[0]? = some (ir,k1):=by rw[rd,mV,gr];rfl
         rw[em] at h;simpa [eq_comm] using h
        obtain⟨rfl,rfl⟩:=kj;subst kf;obtain⟨_,_,ho,_,_,hu⟩:=jy;simp only[yZ,oK] at ho;obtain⟨rfl,-,rfl⟩:=ho;obtain⟨pb,po,rfl,ke,_,cg⟩:=hu (by simp);have c5:=cg 0 zz rfl;have gn:wr.heap.size<=yb:=ey yb rfl
        have jh:Hid (fZ (rds zs) bits 0 []=fZ ((rds zs).drop (i+1)) bits (R+j) (M++[zz])):=by
         rw[Hid,au.out.2,eV (by rw[uK];exact h1)];have e:=(fQ.1 fr.out).2;rw[e,fZ,hn];rfl
        have jr:Hid ((M++[zz]).length=i+1):=by rw[Hid,sY,au.out.1];rfl
        have q0:w5.cell? ⟨yb,yo,none⟩=some (.slice (some ⟨pb,po,none⟩) 1 im):=by simpa using c0
        have q1:w5.cell? ⟨yb,yo+1,none⟩=some (int i64 (j:Int)):=by simpa using c1
        have q5:w5.cell? ⟨pb,po,none⟩=some (int i64 zz):=by simpa using c5
        have mf:((ax.length:Int) == 0)=false:=by rw[gi];rfl
        have me:0<ax.length:=by omega
        have HJ:Hid (R+j<=bits.length):=by have:=hj;exact(by omega:R+j<=bits.length)
        have g9:Hid (wr.heap.size<=yb/\yb<w5.heap.size):=⟨gn,hv⟩;have HI:=qQ h1;clear hn aq d3 cf ey hp gu hz ch hj em gi gr c0 c1 c5 hu cg gn hv;go_upto_region 21 with fail
        refine zO [111,112,113,114,115,116,117,118,119,120,121] (fun L u' W=>vV [(0,111,.pointer (some ⟨E.heap.size,0,none⟩)),(1,112,.slice va M.length vc),(2,113,.slice (some ⟨yb,yo,none⟩) ax.length kz),(3,114,.pointer (some ⟨yb,yo,none⟩)),(4,115,.pointer (some ⟨yb,yo,none⟩)),(5,116,.slice (some ⟨pb,po,none⟩) 1 im),(6,117,.pointer (some ⟨pb,po,none⟩)),(7,118,int i64 zz),(10,121,.pointer (some ⟨E.heap.size,0,none⟩))] L u' /\
         ((L 9=true->L 1=true/\L 8=true)/\(L 8=true->L 7=true)/\(L 7=true->L 6=true)/\(L 6=true->L 5=true)/\(L 11=true->L 9=true)/\(L 9=false->xQ w5 W/\(L 8=true->∃ g,u' 119=.slice (some ⟨g,0,none⟩) 1 1/\W.cell? ⟨g,0,none⟩=some (int i64 zz))) /\
          (L 9=true->∃ W',w5.grownBy W' (Value.slice va M.length vc).ownBlock/\W'.ownsRow (E.heap.size+1) 3 1 (u' 120) (M.length+1) (wl (M++[zz]))/\(L 11=false->W=W')/\(L 11=true->W=W'.setCell ⟨E.heap.size,0,none⟩ (u' 120))))) [0,1,2,3,4,5,6,7,8,9,10,11] (by kernel_rfl) ⟨?_,?_,?_,?_,?_,?_,?_,?_,?_,?_,?_,?_,trivial⟩ (by kernel_rfl) ?_ ?_
        all_goals first
         | (refine e6Q rfl rfl (by decide) rfl rfl (fun L u' W hd h=>⟨fun q=>⟨qV (h.1 q).1,qV (h.1 q).2⟩,fun q=>qV (h.2.1 q),?_,?_,fun q=>qV (h.2.2.2.2.1 q),h.2.2.2.2.2⟩) (fun L u' W h0 hd hT hX=>?_);(first | exact fun q=>qV (h.2.2.1 q) | exact fun q=>qV (hd 6 (by decide)));(first | exact fun q=>qV (h.2.2.2.1 q) | exact fun q=>qV (hd 5 (by decide)));obtain⟨h9,h8,h7,h6,_,hB,_⟩:=hX;first | (clear hB h9 h8 h7 h6;go_simp;done) | (have n9:L 9=false:=(by cases h:L 9 with | false=>rfl | true=>exact Bool.noConfusion ((h9 h).1.symm.trans h0));have q:=(am.out.at (hB n9).1 0 _ rfl).c;have qq:=hT.get 0 rfl (hd 0 (by decide));clear hB h9 h8 h7 h6;go_simp;done) | (have qq:=hT.get 2 rfl (hd 2 (by decide));clear hB h9 h8 h7 h6;go_simp;done) | (have qq:=hT.get 3 rfl (hd 3 (by decide));clear hB h9 h8 h7 h6;go_simp;done) | (have n9:L 9=false:=(by cases h:L 9 with | false=>rfl | true=>exact Bool.noConfusion ((h6 (h7 (h8 (h9 h).2))).symm.trans h0));have q:=((hB n9).1.cell (p:=⟨yb,yo,none⟩) g9.out.2).trans q0;have qq:=hT.get 4 rfl (hd 4 (by decide));clear hB h9 h8 h7 h6;go_simp;done) | (have qq:=hT.get 5 rfl (hd 5 (by decide));clear hB h9 h8 h7 h6;go_simp;done) | (have n9:L 9=false:=(by cases h:L 9 with | false=>rfl | true=>exact Bool.noConfusion ((h8 (h9 h).2).symm.trans h0));have q:=((hB n9).1.cell (p:=⟨pb,po,none⟩) ke).trans q5;have qq:=hT.get 6 rfl (hd 6 (by decide));clear hB h9 h8 h7 h6;go_simp;done))
         | skip
        ·refine bV rfl rfl rfl (fun L u' W h0 hd hT hX K hK=>?_)
         obtain⟨h9,h8,h7,h6,cy,hB,hA⟩:=hX
         have n9:L 9=false:=by
          cases h:L 9 with
          | false=>rfl
          | true=>exact Bool.noConfusion ((h9 h).2.symm.trans h0)
         have qq:=hT.get 7 rfl (hd 7 (by decide));exact gG (v:=.slice (some ⟨W.heap.size,0,none⟩) 1 1) (w':=W.alloc (.cells #[int i64 zz] 3)) (by go_simp) (hK _ _ ⟨fun q=>⟨qV (h9 q).1,rfl⟩,fun _=>qV (hd 7 (by decide)),fun q=>qV (h7 q),fun q=>qV (h6 q),fun q=>qV (cy q),fun _=>⟨bal (hB n9).1 _,fun _=>⟨W.heap.size,rfl,(Bx.new W [int i64 zz] 3 rfl 0 _ rfl).c⟩⟩,fun q=>Bool.noConfusion (n9.symm.trans q)⟩)
        ·refine bV rfl rfl rfl (fun L u' W h0 hd hT hX K hK=>?_)
         obtain⟨h9,h8,h7,h6,cy,hB,hA⟩:=hX;obtain⟨hb,jw⟩:=hB h0;obtain⟨g,e1,e2⟩:=jw (hd 8 (by decide));have ro:=sZ b5.out (cZ hb) (by simp);refine jO W (.tmp 112) (.tmp 119) 35 rfl (E.heap.size+1) 3 i3 _ 1 8 underlying35 k5 hw hy i0 rfl (by decide) va M.length vc (wl M) ((vY (by decide) (by simp)).trans (hT.get 1 rfl (hd 1 (by decide)))) ro (some ⟨g,0,none⟩) 1 1 [int i64 zz] ((vY (by decide) (by simp)).trans e1) rfl (fun _=>⟨_,rfl,fun j x hj=>?_⟩) (fun x hx=>by simp at hx;subst hx;rfl) (by have:=au.out.1;unfold maxLen;omega) (by have:=au.out.1;omega) (by have:=hb.size;have:=a9.out.size;have:=(am.out 0 _ rfl).lt;omega) (M.length+1) rfl (fun a' c' w' hr Z _=>hK _ _ ?_)
         ·match j,hj with
          | 0,hj=>simp at hj;subst hj;rw[bJ];exact e2
         ·exact⟨fun _=>⟨qV (hd 1 (by decide)),qV (hd 8 (by decide))⟩,fun q=>qV (h8 q),fun q=>qV (h7 q),fun q=>qV (h6 q),fun _=>rfl,fun q=>Bool.noConfusion q,fun _=>⟨w',⟨Z.os.trans hb.os,Z.tape.trans hb.tape,Z.output.trans hb.output,bQ hb.size Z.size,fun k hk hn=>(Z.block k (lQ hk hb.size) hn).trans (hb.block k hk)⟩,by rw[show wl (M++[zz])=wl M++[int i64 zz] by simp[wl]];exact hr,fun _=>rfl,fun q=>Bool.noConfusion ((cy q).symm.trans h0)⟩⟩
        ·refine a7Z 35 121 120 rfl rfl rfl (by simp) (by simp) (by kernel_rfl) (by kernel_rfl) (fun L u' W h0 hd hT hX=>?_)
         obtain⟨h9,h8,h7,h6,cy,hB,hA⟩:=hX;obtain⟨W',Z,hr,e1,_⟩:=hA (hd 9 (by decide));have e:=e1 h0;subst e;have hl:=am.out 0 _ rfl;have hc:W.cell? ⟨E.heap.size,0,none⟩=some (.slice va M.length vc):=Z.cell hl.c (fun c=>absurd (tX b5.out c.symm).1 (by show ¬ (E.heap.size+1<=E.heap.size);omega))
         have hf:W.frozen? ⟨E.heap.size,0,none⟩=false:=by
          have:=nV (w:=w5) (w':=W) (a:=⟨E.heap.size,0,none⟩) (Z.block _ hl.lt (fun c=>absurd (tX b5.out c.symm).1 (by show ¬ (E.heap.size+1<=E.heap.size);omega)));exact this.trans hl.f
         exact⟨E.heap.size,0,_,hT.get 8 rfl (hd 10 (by decide)),dR hr,hc,hf,fun q=>⟨qV (h9 q).1,qV (h9 q).2⟩,fun q=>qV (h8 q),fun q=>qV (h7 q),fun q=>qV (h6 q),fun _=>qV (hd 9 (by decide)),fun q=>Bool.noConfusion ((hd 9 (by decide)).symm.trans q),fun _=>⟨W,Z,hr,fun q=>Bool.noConfusion q,fun _=>rfl⟩⟩
        ·intro L u' W hL ⟨_,_,_,_,_,_,_,hA⟩
         obtain⟨W',Z,hr,_,e⟩:=hA (hL 9 (by decide));obtain rfl:=e (hL 11 (by decide));simp only[ov,List.foldl_cons,List.foldl_nil,List.setIfInBounds_toArray,List.set_cons_zero,List.set_cons_succ];obtain⟨oa,oc,de⟩:=iY hr;obtain⟨dm,ck⟩:∃ dm,u' 120=dm:=⟨_,rfl⟩;rw[ck] at hr de ⊢;subst de;have a6:∀ k,(Value.slice va M.length vc).ownBlock=some k->E.heap.size+1<=k/\k<wr.heap.size:=fun k c=>tX c8.out c;have es:=Z.size;have k3:=(c7.out 0 _ rfl).lt;have hk:Keeps w5 W' (fun k=>(Value.slice va M.length vc).ownBlock=some k):=⟨Z.os,Z.tape,Z.output,es,fun k hk hn=>Z.block k hk (fun e=>hn e.symm)⟩;have gs:∀ x,Keeps W' (W'.setCell ⟨E.heap.size,0,none⟩ x) (fun k=>k=E.heap.size):=fun x=>lX (vZ W' (fun k=>k=E.heap.size)) (p:=⟨E.heap.size,0,none⟩) (.inl rfl) x;have fn:xQ E W':=⟨Z.os.trans a9.out.os,Z.tape.trans a9.out.tape,Z.output.trans a9.out.output,bQ a9.out.size es,fun k hk=>(Z.block k (lQ hk a9.out.size) (fun c=>by have:=(a6 k c.symm).1;omega)).trans (a9.out.block k hk)⟩;obtain⟨aj,bn⟩:∃ aj,W'.setCell ⟨E.heap.size,0,none⟩ (.slice oa (M.length+1) oc)=aj:=⟨_,rfl⟩;have cw:Hid (xQ E aj):=bn▸bs fn (vQ _) _;have dd:Hid (Bx aj E.heap.size [.slice oa (M.length+1) oc,int i64 (R:Int),int i64 Q,int i64 O]):=bn▸(am.out.kp hk (fun c=>by have:=(a6 _ c).1;omega)).set (i:=0) (by simp) _;have fx:Hid (aj.ownsRow (E.heap.size+1) 3 1 (.slice oa (M.length+1) oc) (M.length+1) (wl (M++[zz]))):=bn▸K.P.mB hr (Nat.lt_succ_self _) _
         have mp:aj.cell? ⟨yb,yo+1,none⟩=some (int i64 (j:Int)):=by
          have h1:=g9.out;have e1:W'.cell? ⟨yb,yo+1,none⟩=some (int i64 (j:Int)):=Z.cell q1 (fun c=>by have:=(a6 yb c.symm).2;omega);rw[<-bn];exact(vJ (w:=W') (a:=⟨yb,yo+1,none⟩) ((gs _).block yb (by omega) (fun c=>by omega))).trans e1
         rw[bn];clear bn hr ck Z hk gs fn hA hL a6 es k3;obtain⟨⟨o0,o1,o2,o3⟩,f0,f1,f2,f3⟩:=rU dd.out;have mo:IntKind.i64.wrap ((R:Int)+(j:Int))=((R+j:Nat):Int):=by have:=HJ.out;have:=cr.out.2;rw[lJ];omega
         have fa:(M++[zz]).length=M.length+1:=by simp
         have FB:Hid (∀ X,xQ aj X->Bx (X.setCell ⟨E.heap.size,1,none⟩ (int i64 ((R+j:Nat):Int))) E.heap.size [.slice oa (M++[zz]).length oc,int i64 ((R+j:Nat):Int),int i64 Q,int i64 O]):=fun X hX=>by
          rw[fa];exact(dd.out.at hX).set (i:=1) (by simp) _
         have FR:Hid (∀ X,xQ aj X->(X.setCell ⟨E.heap.size,1,none⟩ (int i64 ((R+j:Nat):Int))).ownsRow (E.heap.size+1) 3 1 (.slice oa (M++[zz]).length oc) (M++[zz]).length (wl (M++[zz]))):=fun X hX=>by
          rw[fa];exact K.P.mB (sZ fx.out (cZ hX) (by simp)) (Nat.lt_succ_self _) _
         have FW:Hid (∀ X,xQ aj X->xQ E (X.setCell ⟨E.heap.size,1,none⟩ (int i64 ((R+j:Nat):Int)))):=fun X hX=>bs (bt cw.out hX) (vQ _) _;clear fa q0 q5 am b5 a9 c7 c8 bi au;go_wp2
         go_region
         go_wp2
         go_roundw
         case rel=>exact⟨i+1,R+j,M++[zz],oa,oc,by go_num,HI.out,HJ.out,⟨jr.out,jh.out⟩,(FW.out _ (uQ _ _)).drew,(FB.out _ (uQ _ _)).at (uQ _ _).drew,sZ (FR.out _ (uQ _ _)) (cZ (uQ _ _).drew) (by simp)⟩
         case measure=>have:=HI.out;simp[intOf];omega
        ·intro u'
         exact⟨fun t _ h=>Bool.noConfusion h,fun h=>Bool.noConfusion h,fun h=>Bool.noConfusion h,fun h=>Bool.noConfusion h,fun h=>Bool.noConfusion h,fun h=>Bool.noConfusion h,fun _=>⟨(uQ _ _).drew,fun h=>Bool.noConfusion h⟩,fun h=>Bool.noConfusion h⟩
      ·obtain rfl:i=zs.length:=by omega
       have HE:Hid (fZ ls bits 0 []=some (M,R)):=by
        rw[Hid,<-db.out,au.out.2,nG (by rw[uK];exact vQ _),fZ]
       have J:=ah.out.at bi.out;obtain⟨s0,s1,s2,s3,s4,_,_,_,_,_,_⟩:=J.st;obtain⟨r0,r1,r2,r3,r4,f0,f1,f2,f3,f4,_⟩:=J.rs;obtain⟨⟨x0,x1,x2,x3⟩,y0,y1,y2,y3⟩:=rU J.rt;obtain⟨⟨o0,o1,o2,o3⟩,_,_,_,_⟩:=rU c7.out;have lh:=ah.out.lt;have J:Hid _:=J;go_wp2
       go_region
       go_wp2
       have HN:s' = ⟨y,D,V,I,C⟩/\er=0:=by
        refine⟨b6.out.1,?_⟩;rcases b6.out.2 with⟨h,_⟩|⟨t,_,h⟩
        ·rw[HE.out] at h;cases h
        ·exact h
       obtain⟨F,T,FK,FB⟩:=J.out.fin (.slice aa y.length ac) (int i64 D) (.bool V) (.bool I) (.slice af C.length ag) (.slice va M.length vc) (int i64 (R:Int)) (int i64 Q) (int i64 O);rw[HN.1,HN.2];have cj:=K.P.jD (K.P.qA c8.out FK (fun g Z c=>by have:=(tX c8.out Z).1;omega)) (show w.heap.size<=E.heap.size+1 by omega)
       exact eQ (v:=.tuple #[stv ⟨y,D,V,I,C⟩ (.slice aa y.length ac) (.slice af C.length ag),.agg #[.slice va M.length vc,int i64 (R:Int),int i64 Q,int i64 O],int i64 0]) (by simp[results,results16,go_sem,F.c0,F.c1,F.c2,F.c3,F.c4,(T 0 _ rfl).c,(T 1 _ rfl).c,(T 2 _ rfl).c,(T 3 _ rfl).c]) rfl
        ⟨_,_,_,_,_,_,rfl,((dz.out.at bi.out).kp FK cu.out.1 cu.out.2).at (uQ _ _).drew,FB.drew,dx.out,.inr ⟨rfl,M,R,HE.out,rfl,rfl,rfl,sZ cj (cZ (uQ _ _).drew) (by simp)⟩⟩
