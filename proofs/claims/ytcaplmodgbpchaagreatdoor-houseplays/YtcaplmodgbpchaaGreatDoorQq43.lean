import Derived.Test.YtcaplmodgbpchaaGreatDoorQq41
import Derived.Test.YtcaplmodgbpchaaGreatDoorQq42
import Derived.Handy
open Go.Proofs.Tryz
open Go.Value(int)
open Go.IntKind(i64)
set_option linter.unusedSimpArgs false
set_option maxHeartbeats 16000000
set_option maxRecDepth 100000
namespace Go.Proofs.YtcaplmodgbpchaaGreatDoor
variable {ts:List (List Int)} {i id:Nat} {d:Int} {n nm:ByteArray} {P:Program} {ops:Array Oper} {Q:Exit->Act->World->Prop} {a:Act} {w:World}
section
open Go.RowKit Ds
open K (Cl)
open K.P (HSt Keeps xX lX vZ jZ gZ Ev Sn oA tZ TwoB FivB Stt stv mD eR bdQ wl fH aK bK yX cK oU jO tX iY dR sZ cZ qV ev rV wY qA enc wI lP)
attribute [local go_sem] bL
theorem e8X {l:List K.Ds.aQ}{S:HSt}{x:Stp}(h:x.act=2\/x.act=3\/x.act=5)(a:S.up=false):kZ l ts S x=(S,⟨0,none,[]⟩):=by
 unfold kZ bD;rw[zQ (fun c=>by omega)];rcases h with h|h|h <;> simp[h,uR,gZ,a]
def e8Z (l:List K.Ds.aQ) (ts:List (List Int)) (words:List Int) (xs:List Stp) (w:World):Ending->World->Prop:=fun e w' =>
 ∃ W0 N0 bS ov dv nv S os,e=.returned (.tuple #[ov,dv])/\vU l ts ⟨words,-1,false,false,[]⟩ xs=(S,os)/\xQ w w'/\PlI W0 w' N0 bS (fun _=>False) l ts ov dv nv S os
theorem e8J (bn:mD)(B:Nat)(cv rv sv:Value)(l:List K.Ds.aQ)(rs:List K.Rw)(wv:Value)(words:List Int)(xs:List Stp)(w:World)(hB:B<=w.heap.size)(hp:K.kQ w B cv l)(hq:K.nQ w B rv rs)
  (af:oU w wv words) (ef:rV words) (hv:words.length<=17592186044416) (hs:oM w B sv xs) (jg:xs.length<=1000000000000) :
  Calls prog 5 #[.agg #[cv,rv],wv,sv] w (e8Z l (K.rr rs) words xs w):=by
 have cm:Hid mD:=bn;have HP:=qQ hp;have HQ:=qQ hq;have HS:=qQ hs;obtain⟨i4,hd,fc,fd,fe⟩:=pZ bxJ;obtain⟨ca,cc,rfl,_⟩:=hp.slice;obtain⟨ra,rc,rfl,_⟩:=hq.slice;obtain⟨sa,sc,rfl,je,jf,_⟩:=hs;obtain⟨wa,wc,rfl,_⟩:=af.1.slice;obtain⟨Y,c8⟩:∃ Y,w.alloc (.cells #[.slice ca l.length cc,.slice ra rs.length rc] 25)=Y:=⟨_,rfl⟩;have j1:Y.heap.size=w.heap.size+1:=by rw[<-c8];simp
 have e9:Hid (TwoB Y w.heap.size (.slice ca l.length cc) (.slice ra rs.length rc)):=c8▸TwoB.new _ _ _ 25 _ rfl;have ck:Hid (xQ w Y):=c8▸ba _ _
 have g8:Hid (PlI Y (Y.alloc (.cells #[.slice wa words.length wc,int i64 (-1),.bool false,.bool false,.slice none 0 0] 66)) (w.heap.size+1) (w.heap.size+1) (fun _=>False) l (K.rr rs) (.slice none 0 0) (.slice wa words.length wc) (.slice none 0 0) ⟨words,-1,false,false,[]⟩ []):=by
  have hb:xQ Y (Y.alloc (.cells #[.slice wa words.length wc,int i64 (-1),.bool false,.bool false,.slice none 0 0] 66)):=ba _ _;have f7:oU Y (.slice wa words.length wc) words:=af.at ck.out
  have gt:∀ m,(m=w.heap.size+1\/(Value.slice none 0 0).ownBlock=some m\/False)->Y.heap.size<=m:=fun m h=>by
   rcases h with h|h|h
   ·omega
   ·cases h
   ·exact h.elim
  refine⟨hb.mono (by omega),⟨vQ _,by omega⟩,?_,⟨f7.at hb,⟨none,0,rfl,vQ _,by simp,fun x h=>by(cases h),fun h=>absurd rfl h⟩,K.P.uE,hv,ef,⟨by simp,by simp⟩⟩,(fun h=>by cases h),⟨K.P.nB f7 gt,K.P.yX.nil⟩,fun k h=>h.elim,(fun h=>by cases h),[],rfl,⟨rfl,.inl ⟨rfl,rfl⟩⟩,fun i x cs hx=>by simp at hx⟩;exact FivB.new _ _ _ _ _ _ 66 _ (by omega)
 clear hp hq ef af;go_enter func5,ntmps5;go_wp2
 go_loopw [18,9] (fun iv ov wr=>∃ (i:Nat) (dv nv:Value),iv=int i64 (i:Int)/\i<=xs.length/\Hid (PlI Y wr (w.heap.size+1) (w.heap.size+1) (fun _=>False) l (K.rr rs) ov dv nv (vU l (K.rr rs) ⟨words,-1,false,false,[]⟩ (xs.take i)).1 (vU l (K.rr rs) ⟨words,-1,false,false,[]⟩ (xs.take i)).2)) (fun iv _ _=>xs.length - (intOf iv).toNat)
 case atStart=>exact⟨0,_,_,rfl,dQ _,g8⟩
 case round =>
  obtain⟨i,dv,nv,rfl,hi,HI⟩:=hrel;clear c8;by_cases h1:i<xs.length
  ·obtain⟨x,hx⟩:∃ x,xs[i]? = some x:=⟨_,nZ h1⟩
   have cw:Below B w wr:=by
    have q1:=ck.out;have X:=HI.out.be;exact⟨X.os.trans q1.os,X.tape.trans q1.tape,X.output.trans q1.output,bQ q1.size X.size,fun k O=>(X.block k (by omega)).trans (q1.block k (by omega))⟩
   have bw:=qQ cw;obtain⟨jm,jn,ht,_,_,ae⟩:=HS.out;cases ht;obtain⟨b,o,rfl,gv,ae⟩:=ae (fun e=>by rw[e] at h1;simp at h1);obtain⟨v0,v1,v2,v3,v4,v5,xa,xc,nb,hc,ct,eg,eu,et,ek,hn,af,ew,f6⟩:=(ae i x hx).keep cw gv;have gj:=qQ ct;have ga:=qQ eg;obtain⟨kk,kc,kl,kh,ka,kn,kd,kb,km,kp,rfl,rfl,rfl,rfl,rfl,rfl⟩:=ct.shape;have HX:Hid ((xa=none->xc=0)/\zX x.lo/\zX x.hi/\zX x.n/\zX x.word/\x.nm.size<=9223372036854775807/\x.pn.size<=9223372036854775807):=⟨eu,et,ek,hn,af,ew,f6⟩;have HR:=qQ hc;clear hc ct eg eu et ek hn af ew f6 ae cw;have j5:(i:Int)<(xs.length:Int):=by omega
   obtain⟨S,os,ak⟩:∃ S os,vU l (K.rr rs) ⟨words,-1,false,false,[]⟩ (xs.take i)=(S,os):=⟨_,_,rfl⟩
   have cd:os.length=i:=by
    have:=lB l (K.rr rs) (xs.take i) ⟨words,-1,false,false,[]⟩;rw[ak,lU] at this;simp only at this;omega
   have gi:=qQ cd
   have e3:Hid (PlI Y wr (w.heap.size+1) (w.heap.size+1) (fun _=>False) l (K.rr rs) u9 dv nv S os):=by
    have:=HI.out;rw[ak] at this;exact this
   have gp:Hid (∀ s' x',kZ l (K.rr rs) S x=(s',x')->vU l (K.rr rs) ⟨words,-1,false,false,[]⟩ (xs.take (i+1))=(s',os++[x'])):=fun s' x' he=>by
    rw[rX,hx];simp only[Option.toList_some];rw[afJ,ak];simp only;rw[he]
   obtain⟨J,bq⟩:∃ J,(wr.alloc (.cells #[int i64 x.act,int i64 x.n,.string x.nm,int i64 x.bu,int i64 x.bd,.string x.pn,int i64 kk,.string kc,int i64 kl,int i64 kh,.slice ka kn kd,.slice kb km kp,int i64 x.u,int i64 x.d,int i64 x.lo,int i64 x.hi,.slice xa x.bits.length xc,int i64 x.word] 57)).alloc (.cells #[int i64 0,.slice none 0 0,int i64 0,int i64 0,int i64 0,.slice none 0 0] 42)=J:=⟨_,rfl⟩;have bm:xQ wr J:=bq▸bal (ba _ _) _;have cq:=qQ bm;have jd:wr.heap.size+2<=J.heap.size:=by rw[<-bq];simp
   have a6:Hid (Bx J wr.heap.size [int i64 x.act,int i64 x.n,.string x.nm,int i64 x.bu,int i64 x.bd,.string x.pn,int i64 kk,.string kc,int i64 kl,int i64 kh,.slice ka kn kd,.slice kb km kp,int i64 x.u,int i64 x.d,int i64 x.lo,int i64 x.hi,.slice xa x.bits.length xc,int i64 x.word]):=bq▸(Bx.new wr [int i64 x.act,int i64 x.n,.string x.nm,int i64 x.bu,int i64 x.bd,.string x.pn,int i64 kk,.string kc,int i64 kl,int i64 kh,.slice ka kn kd,.slice kb km kp,int i64 x.u,int i64 x.d,int i64 x.lo,int i64 x.hi,.slice xa x.bits.length xc,int i64 x.word] 57 rfl).at (ba _ _);have L:Hid (Bx J (wr.heap.size+1) [int i64 0,.slice none 0 0,int i64 0,int i64 0,int i64 0,.slice none 0 0]):=bq▸Bx.new _ [int i64 0,.slice none 0 0,int i64 0,int i64 0,int i64 0,.slice none 0 0] 42 (by simp);have A:Hid (PlI Y J (w.heap.size+1) (w.heap.size+1) (fun k=>k=wr.heap.size+1) l (K.rr rs) u9 dv nv S os):=e3.out.more bm (fun k h=>.inr ⟨by omega,by omega⟩);have a0:=(a6.out 0 _ rfl).c;clear ak hx HI bm cd;go_upto_region 5 with fail;refine oO ?_;(iterate 3 go_step);refine kC rfl 57 _ rfl b (o+i*18) rfl _ _ HR.out underlying57 rfl yC ?_;(iterate 3 go_step);refine wpList_store_rowTo rfl 57 _ _ rfl rfl wr.heap.size _ rfl rfl 57 _ (Go.heap_alloc_last _ _) yC rfl b3X ?_;rw[World.setRow_alloc_new];go_upto_region 7 with fail;clear bq;have eh:B<=J.heap.size:=bQ (bQ hB bw.out.size) (by have:=cq.out.size;omega);have bk:Below B w J:=bw.out.trans (cq.out.mono (bQ hB bw.out.size));have t0:=(A.out.be.cell (p:=⟨w.heap.size,0,none⟩) (by simp)).trans e9.out.c0;have t1:=(A.out.be.cell (p:=⟨w.heap.size,1,none⟩) (by simp)).trans e9.out.c1;have j3:w.heap.size+1<wr.heap.size:=e3.out.st.lt;obtain⟨da,dc,rfl,_⟩:=A.out.sm.dk.1.slice;obtain⟨na,nc,rfl,_⟩:=A.out.sm.dn.slice;have e4:=qQ (HP.out.keep bk);have e6:=qQ (HQ.out.keep bk);clear bk
   (iterate 10 go_step)
   go_cut [] (fun wx=>∃ (R V:Value) (s':HSt) (x':Sn rY) (er us lu ld:Int) (ta:Option Addr) (tn tc:Nat) (ea:Option Addr) (en ec:Nat),Hid (kZ l (K.rr rs) S x=(s',x'))/\Hid (PlI Y wx (w.heap.size+1) (w.heap.size+1) (fun k=>k=wr.heap.size+1) l (K.rr rs) u9 R V s' os)/\Hid (Bx wx (wr.heap.size+1) [int i64 er,.slice ta tn tc,int i64 us,int i64 lu,int i64 ld,.slice ea en ec])/\Hid (nF wx (fun k=>k=w.heap.size+1\/u9.ownBlock=some k\/k=wr.heap.size+1) x' [int i64 er,.slice ta tn tc,int i64 us,int i64 lu,int i64 ld,.slice ea en ec]))
   case first =>
    have Z:Hid (∀ (wx:World) (R V:Value) (s':HSt) (er:Int),kZ l (K.rr rs) S x=(s',⟨er,none,[]⟩)->PlI Y wx (w.heap.size+1) (w.heap.size+1) (fun k=>k=wr.heap.size+1) l (K.rr rs) u9 R V s' os->Bx wx (wr.heap.size+1) [int i64 er,.slice none 0 0,int i64 0,int i64 0,int i64 0,.slice none 0 0]->∃ (R V:Value) (s':HSt) (x':Sn rY) (er us lu ld:Int) (ta:Option Addr) (tn tc:Nat) (ea:Option Addr) (en ec:Nat),Hid (kZ l (K.rr rs) S x=(s',x'))/\Hid (PlI Y wx (w.heap.size+1) (w.heap.size+1) (fun k=>k=wr.heap.size+1) l (K.rr rs) u9 R V s' os)/\Hid (Bx wx (wr.heap.size+1) [int i64 er,.slice ta tn tc,int i64 us,int i64 lu,int i64 ld,.slice ea en ec])/\Hid (nF wx (fun k=>k=w.heap.size+1\/u9.ownBlock=some k\/k=wr.heap.size+1) x' [int i64 er,.slice ta tn tc,int i64 us,int i64 lu,int i64 ld,.slice ea en ec])):=fun wx R V s' er h1 h2 h3 =>
     ⟨R,V,s',_,er,0,0,0,none,0,0,none,0,0,h1,h2,h3,eqQ wx _ er⟩
    by_cases h6:x.act=1
    ·as_aux_lemma =>
     obtain⟨er,cx⟩:∃ er,K.Ds.fV l (K.rr rs)=er:=⟨_,rfl⟩;have dx:=qQ cx;have kW:=K.asQ B (.slice ca l.length cc) (.slice ra rs.length rc) l rs J eh e4.out e6.out er cx;have b1:(x.act == 1)=true:=by simpa using h6
     have dy:=qQ h6;clear cx h6;go_wp2_with fail;refine kW.mono ?_;rintro x3 w3 ⟨rfl,H⟩;have Q:=qQ (A.out.more H (fun k h=>.inl h));have E:=L.out.at H;have y0:=(E 0 _ rfl).c;have y1:=(E 0 _ rfl).f;obtain⟨w4,d5⟩:∃ w4,w3.setCell ⟨wr.heap.size+1,0,none⟩ (int i64 er)=w4:=⟨_,rfl⟩;have I:Hid (PlI Y w4 (w.heap.size+1) (w.heap.size+1) (fun k=>k=wr.heap.size+1) l (K.rr rs) u9 (.slice da S.disk.length dc) (.slice na S.done.length nc) S os):=d5▸Q.out.kp (lX (vZ w3 (fun k=>k=wr.heap.size+1)) (p:=⟨wr.heap.size+1,0,none⟩) (.inl rfl) _) (fun k h=>h);have bc:Hid (Bx w4 (wr.heap.size+1) [int i64 er,.slice none 0 0,int i64 0,int i64 0,int i64 0,.slice none 0 0]):=d5▸E.set (i:=0) (by simp) _;clear kW H;go_upto_region 10 with fail;clear d5 y0 y1 E;have r0:=(bc.out 0 _ rfl).c;have lr:=(bc.out 0 _ rfl).lt;obtain⟨s0,s1,s2,s3,s4,_,_,f2,f3,f4,ls⟩:=I.out.st;have af:oU w4.drew (.slice da S.disk.length dc) S.disk:=I.out.sm.dk.at (uQ _ _).drew;have kL:=bdQ cm.out w4.drew.heap.size _ S.disk w4.drew (vQ _) af.1 I.out.sm.w64 I.out.sm.ln;have cz:¬ w.heap.size+1=wr.heap.size+1:=by omega
     go_region_held3 (fun w'=>w'.cell? ⟨wr.heap.size+1,0,none⟩=some (int i64 er)/\w'.cell? ⟨w.heap.size+1,0,none⟩=some (.slice da S.disk.length dc)) (first|assumption|(simp[go_sem, *];done))
      ((go_at_call 14;refine kL.mono ?_;rintro x5 w5 ⟨r5,rfl,d3,em,bj⟩;obtain⟨fh,fi,e5⟩:=iY d3;subst e5;have g0:=(bj.cell (p:=⟨wr.heap.size+1,0,none⟩) lr).trans r0;have g1:=(bj.cell (p:=⟨w.heap.size+1,0,none⟩) ls).trans s0;obtain⟨_,_,p2,p3,p4,_,_,z2,z3,z4,_⟩:=I.out.st.below ((uQ _ _).drew.trans bj)))
     have B5:xQ w4 w5:=(uQ _ _).drew.trans bj;have ax:=qQ (I.out.more B5 (fun k h=>.inl h));have cj:=qQ (bc.out.at B5);have e7:=qQ d3;have co:=qQ em;clear kL g0 g1 r0 lr s0 s1 s2 s3 s4 f2 f3 f4 ls af bj d3 em B5;go_wp2;go_meet;have O:Keeps w5 (((w5.setCell ⟨w.heap.size+1,2,none⟩ (.bool (er == 0))).setCell ⟨w.heap.size+1,3,none⟩ (.bool false)).setCell ⟨w.heap.size+1,4,none⟩ (.slice fh (wY S.disk).length fi)) (fun k=>k=w.heap.size+1):=lX (lX (lX (vZ w5 (fun k=>k=w.heap.size+1)) (p:=⟨w.heap.size+1,2,none⟩) (.inl rfl) _) (p:=⟨w.heap.size+1,3,none⟩) (.inl rfl) _) (p:=⟨w.heap.size+1,4,none⟩) (.inl rfl) _;have N:=ax.out.av;have hS:=ax.out.sm.kp O (N.1.imp fun k m=>.inl m) (N.2.imp fun k m=>.inl m);have hm:=I.out.pl;have gy:=wI e7.out (by have:=co.out.len;omega) (fun x hx=>bQ (lP co.out x hx) (by decide));have c9:yX (fun k=>k=w.heap.size+1\/u9.ownBlock=some k\/k=wr.heap.size+1) (.slice fh (wY S.disk).length fi):=cK e7.out hm;exact Z.out _ _ _ ⟨S.disk,S.left,decide (er=0),false,wY S.disk⟩ er (by unfold kZ bD;rw[zQ (fun h=>by have:=dy.out;omega),jQ dy.out,dx.out];rfl) (ax.out.sto O (((ax.out.st.t2 _).t3 _).t4 _) ⟨hS.dk,(K.P.fR gy (vQ _) O (c9.imp fun k m=>.inl m)).mono O.size,co.out,hS.ln,hS.w64,hS.i64⟩ ⟨N.1,c9⟩ (fun h=>dx.out.trans (by simpa using h))) (((cj.out.oth (by omega) _).oth (by omega) _).oth (by omega) _)
    by_cases h7:x.act=4
    ·as_aux_lemma =>
     obtain⟨_,s1,_,_,_,_,f1,_,_,_,_⟩:=A.out.st;have a1:=(a6.out 1 _ rfl).c;have b1:(x.act == 1)=false:=by simpa using h6
     have b4:(x.act == 4)=true:=by simpa using h7
     have F:Hid (kZ l (K.rr rs) S x=(⟨S.disk,x.n,S.up,S.brk,S.done⟩,⟨0,none,[]⟩)):=by
      unfold kZ bD;rw[Hid,zQ (fun h=>by omega),zQ h6,jQ h7];rfl
     clear h6 h7;go_wp2;go_meet;have O:Keeps J (J.setCell ⟨w.heap.size+1,1,none⟩ (int i64 x.n)) (fun k=>k=w.heap.size+1):=lX (vZ J (fun k=>k=w.heap.size+1)) (p:=⟨w.heap.size+1,1,none⟩) (.inl rfl) _;have N:=A.out.av;have hS:=A.out.sm.kp O (N.1.imp fun k m=>.inl m) (N.2.imp fun k m=>.inl m);exact Z.out _ _ _ ⟨S.disk,x.n,S.up,S.brk,S.done⟩ 0 F.out (A.out.sto O (A.out.st.t1 _) ⟨hS.dk,hS.dn,hS.iv,hS.ln,hS.w64,HX.out.2.2.2.1⟩ N A.out.up) (L.out.oth (by omega) _)
    by_cases h8:x.act=6
    ·as_aux_lemma =>
     obtain⟨s0,_,_,_,_,e0,_,_,_,_,_⟩:=A.out.st;have a1:=(a6.out 1 _ rfl).c;have b1:(x.act == 1)=false:=by simpa using h6
     have b4:(x.act == 4)=false:=by simpa using h7
     have b6:(x.act == 6)=true:=by simpa using h8
     by_cases T:0<=x.n/\x.n<(S.disk.length:Int)
     ·obtain⟨a,ha⟩:∃ a:Nat,x.n=(a:Int):=⟨x.n.toNat,by omega⟩
      have gu:a<S.disk.length:=by omega
      rw[ha] at a1
      have F:Hid (kZ l (K.rr rs) S x=(⟨S.disk.set a x.word,S.left,S.up,S.brk,S.done⟩,⟨0,none,[]⟩)):=by
       unfold kZ;rw[Hid,jQ ⟨h8,T.1,T.2⟩,ha];rfl
      have ei:decide ((a:Int) ≥ 0)=true:=by simp
      have gx:decide ((a:Int)<(S.disk.length:Int))=true:=by simpa using gu
      have j2:(a:Int)<(S.disk.length:Int):=by omega
      obtain⟨i2,h4,f8,fa,fb⟩:=pZ uL;have az:=A.out.sm.dk;have j6:=A.out.sm.ln;have gc:Hid ((J.alloc (.cells #[] 2)).ownsRow J.heap.size 2 1 (.slice (some ⟨J.heap.size,0,none⟩) 0 0) 0 []):=K.P.lW J 2 1 _ (vQ _);have ej:=az.1.slice
      have gd:Hid (da=none->S.disk.length=0/\dc=0):=fun e=>by
       subst e;have h1:=az.2 _ _ rfl;obtain⟨_,_,h2,h3,_⟩:=ej;simp only[yZ] at h2;omega
      have ge:Hid (∀ ad,da=some ad->∀ j u,(wl S.disk)[j]? = some u->(J.alloc (.cells #[] 2)).cell? (ad.add j)=some u):=fun ad e j u hj=>by
       subst e;have hf:j<S.disk.length:=by have:=(fQ.1 hj).1;simpa [wl] using this
       obtain⟨b,o,x,e1,hb,_,hg,hc⟩:=az.1.get (vQ _) (ba J (.cells #[] 2)) hf;cases e1;rw[bJ,hc];rw[wl,mV,hg] at hj;exact hj
      have fx:=qQ ha;clear h6 h7 h8 T ha az ej;go_wp2_with (at_builtin;refine uS rfl _ _ 26 rfl J.heap.size 2 i2 (int i64 0) 1 8 underlying26 h4 f8 fa fb rfl (by decide) _ _ _ rfl gc.out da S.disk.length dc (wl S.disk) rfl gd.out ?q1 ge.out ?q3 ?q4 ?q5 ?q6 ?q7 ?_)
      case q1=>simp[wl]
      case q3=>intro u hu;obtain⟨z,_,rfl⟩:=iJ.1 hu;rfl
      case q4=>simp[maxLen];omega
      case q5=>omega
      case q6=>simp
      case q7=>show Value.slice (some ⟨J.heap.size,0,none⟩) 0 0≠_;simp
      intro v' w3 cf U cz;have H:xQ J w3:=⟨U.os,U.tape,U.output,bQ (by simp) U.size,fun k O=>(U.block k (by simp;omega) (by simp[Value.ownBlock];omega)).trans (tM _ _ _ O)⟩;obtain⟨oa,oc,rfl,j7,hh,ey⟩:=K.P.tH cf
      obtain⟨g,rfl⟩:∃ g,oa=some ⟨g,0,none⟩:=by
       cases oa with
       | none=>obtain⟨h1,h2⟩:=hh rfl;rw[h1,h2] at cz;exact absurd rfl cz
       | some ad=>obtain⟨g,e,_⟩:=ey ad rfl;exact⟨g,by rw[e]⟩
      have HG:Hid (J.heap.size<=g):=by obtain⟨g',e,h,_⟩:=ey _ rfl;cases e;exact h
      have HO:=qQ cf;have Q:=qQ (A.out.more H (fun k h=>.inl h));have E:=qQ (L.out.at H);have fy:=qQ H;have c1:=((a6.out.at H) 1 _ rfl).c;rw[show x.n=(a:Int) from fx.out] at c1;have iy:=((a6.out.at H) 17 _ rfl).c;obtain⟨ce,gw⟩:∃ ce,(wl S.disk)[a]? = some ce:=⟨_,nZ (by simp[wl];omega)⟩
      have m0:w3.cell? ⟨g,a,none⟩=some ce:=by
       have:=HO.out.cells (g:=g) rfl a _ gw;rwa [bJ,vX] at this
      have m1:w3.frozen? ⟨g,a,none⟩=false:=by
       have h:=HO.out.frozenAt a;exact h
      obtain⟨p0,_,_,_,_,r0,_,_,_,_,lS⟩:=Q.out.st;have gz:¬ g=w.heap.size+1:=by have:=HG.out;have:=A.out.st.lt;omega
      have ia:¬ w.heap.size+1=g:=fun e=>gz e.symm;go_wp2;go_meet;have O:Keeps (w3.setCell ⟨g,a,none⟩ (int i64 x.word)) ((w3.setCell ⟨g,a,none⟩ (int i64 x.word)).setCell ⟨w.heap.size+1,0,none⟩ (.slice (some ⟨g,0,none⟩) S.disk.length oc)) (fun k=>k=w.heap.size+1):=lX (vZ _ (fun k=>k=w.heap.size+1)) (p:=⟨w.heap.size+1,0,none⟩) (.inl rfl) _;have I:PlI Y (w3.setCell ⟨g,a,none⟩ (int i64 x.word)) (w.heap.size+1) (w.heap.size+1) (fun k=>k=wr.heap.size+1) l (K.rr rs) u9 (.slice da S.disk.length dc) (.slice na S.done.length nc) S os:=A.out.more (bs fy.out HG.out _) (fun k h=>.inl h)
      have cg:(w3.setCell ⟨g,a,none⟩ (int i64 x.word)).ownsRow J.heap.size 2 1 (.slice (some ⟨g,0,none⟩) S.disk.length oc) S.disk.length (wl (S.disk.set a x.word)):=by
       have h:=(HO.out.stored a (int i64 x.word)).1;have e:(wl S.disk).set a (int i64 x.word)=wl (S.disk.set a x.word):=by simp[wl,List.map_set]
       rwa [e] at h
      have es:(S.disk.set a x.word).length=S.disk.length:=mK;have N:=I.av;have c9:yX (fun k=>k=w.heap.size+1\/u9.ownBlock=some k\/k=wr.heap.size+1) (.slice (some ⟨g,0,none⟩) S.disk.length oc):=cK cg A.out.pl;have hS:=I.sm.kp O (N.1.imp fun k m=>.inl m) (N.2.imp fun k m=>.inl m);have az:=K.P.bzX (K.P.mB cg A.out.st.lt (.slice (some ⟨g,0,none⟩) S.disk.length oc) (k:=0)) es (by omega);exact Z.out _ _ _ ⟨S.disk.set a x.word,S.left,S.up,S.brk,S.done⟩ 0 F.out (I.sto O (I.st.t0 _) ⟨az,hS.dn,hS.iv,by show(S.disk.set a x.word).length<=_;omega,fun y hy=>(mI hy).elim (fun h=>A.out.sm.w64 y h) (fun e=>by rw[e];exact HX.out.2.2.2.2.1),hS.i64⟩ ⟨c9,N.2⟩ A.out.up) ((E.out.oth (by have:=HG.out;omega) _).oth (by omega) _)
     ·have F:Hid (kZ l (K.rr rs) S x=(S,⟨0,none,[]⟩)):=by
       unfold kZ bD;rw[Hid,zQ (fun c=>T ⟨c.2.1,c.2.2⟩),zQ h6,zQ h7,zQ (by omega),zQ (by omega),zQ (by omega)];rfl
      by_cases hn:0<=x.n
      ·have ei:decide (x.n ≥ 0)=true:=by simpa using hn
       have gx:decide (x.n<(S.disk.length:Int))=false:=by simp;omega
       clear h6 h7 h8 T hn;go_wp2;go_meet;exact Z.out _ _ _ S 0 F.out A.out L.out
      ·have ei:decide (x.n ≥ 0)=false:=by simpa using hn
       clear h6 h7 h8 T hn;go_wp2;go_meet;exact Z.out _ _ _ S 0 F.out A.out L.out
    have ja:(x.act == 1)=false:=by simpa using h6
    have jb:(x.act == 4)=false:=by simpa using h7
    have jc:(x.act == 6)=false:=by simpa using h8
    by_cases T:x.act=2\/x.act=3\/x.act=5
    ·have ao:∀ P:Prop,((x.act == 2)=true->P)->((x.act == 2)=false->(x.act == 3)=true->P)->((x.act == 2)=false->(x.act == 3)=false->(x.act == 5)=true->P)->P:=fun P p2 p3 p5=>by
      rcases T with h|h|h
      ·exact p2 (by simpa using h)
      ·exact p3 (by simp[h]) (by simpa using h)
      ·exact p5 (by simp[h]) (by simp[h]) (by simpa using h)
     have dz:=qQ T;obtain⟨s0,s1,s2,s3,s4,_,_,_,_,_,_⟩:=A.out.st;by_cases hu:S.up=true
     ·by_cases hb:S.brk=true
      ·as_aux_lemma =>
       have F:=b3Z (l:=l) (ts:=K.rr rs) (x:=x) dz.out hu hb;have F:Hid _:=F;have y0:=(L.out 0 _ rfl).c;have y1:=(L.out 0 _ rfl).f;rw[hu] at s2;rw[hb] at s3;clear hu hb h6 h7 h8 T s0 s1 s4;refine ao _ (fun X=>?_) (fun X q3=>?_) (fun X q3 q5=>?_)
       all_goals
        clear ao;go_wp2;go_meet;exact Z.out _ _ _ S 9 F.out (A.out.kp (lX (vZ J (fun k=>k=wr.heap.size+1)) (p:=⟨wr.heap.size+1,0,none⟩) (.inl rfl) _) (fun k h=>h)) (L.out.set (i:=0) (by simp) _)
      ·have ac:S.brk=false:=by simpa using hb
       have bz:=qQ (A.out.up hu);have bp:Stt J ⟨S.disk,S.left,true,false,S.done⟩ (.slice da S.disk.length dc) (.slice na S.done.length nc):=by rw[bR hu ac];exact A.out.sm
       rw[hu] at s2;rw[ac] at s3;have c6:∀ (W:World) (a0 a1 a2 a3 a4:Value),Keeps W (((((W.setCell ⟨w.heap.size+1,0,none⟩ a0).setCell ⟨w.heap.size+1,1,none⟩ a1).setCell ⟨w.heap.size+1,2,none⟩ a2).setCell ⟨w.heap.size+1,3,none⟩ a3).setCell ⟨w.heap.size+1,4,none⟩ a4) (fun k=>k=w.heap.size+1):=fun W a0 a1 a2 a3 a4=>bK (vZ W (fun k=>k=w.heap.size+1)) rfl a0 a1 a2 a3 a4;have c6:Hid _:=c6;rcases T with h|h|h
       ·as_aux_lemma =>
        have X:(x.act == 2)=true:=by simpa using h
        obtain⟨s',er,bn⟩:∃ s' er,jZ S (1,x.nm,0,x.bu,x.bd)=(s',er):=⟨_,_,rfl⟩;have F:Hid (kZ l (K.rr rs) S x=(s',⟨er,none,[]⟩)):=b3J h hu ac bn;have ff:=eR cm.out ⟨S.disk,S.left,true,false,S.done⟩ s' (.slice da S.disk.length dc) (.slice na S.done.length nc) (1,x.nm,0,x.bu,x.bd) er J bp HX.out.2.2.2.2.2.1 ⟨by simp,by simp⟩ (by rw[bR hu ac];exact bn);have a2:=(a6.out 2 _ rfl).c;have a3:=(a6.out 3 _ rfl).c;have a4:=(a6.out 4 _ rfl).c;clear hu hb ac h h6 h7 h8 ao bn bp;go_wp2_with fail;refine ff.mono ?_;rintro x3 w3 ⟨R,V,br,aa,H,bh⟩;obtain⟨a7,a8,rfl,_⟩:=aa.dk.1.slice;obtain⟨ag,ah,rfl,_⟩:=aa.dn.slice;obtain⟨C,G,ai,M,D⟩:=s';change x3=.returned (.tuple #[.agg #[.slice a7 C.length a8,int i64 G,.bool ai,.bool M,.slice ag D.length ah],int i64 er]) at br;subst br;have Q:=qQ (A.out.more H (fun k h=>.inl h));have E:=qQ (L.out.at H);have cn:=qQ aa;have an:Hid (yX (fun k=>k=w.heap.size+1\/u9.ownBlock=some k\/k=wr.heap.size+1) (.slice a7 C.length a8)/\yX (fun k=>k=w.heap.size+1\/u9.ownBlock=some k\/k=wr.heap.size+1) (.slice ag D.length ah)):=bh _ A.out.pl A.out.av.1 A.out.av.2;obtain⟨c0,c1,c2,c3,c4,f0,f1,f2,f3,f4,_⟩:=Q.out.st;have y0:=(E.out 0 _ rfl).c;have y1:=(E.out 0 _ rfl).f;clear ff s0 s1 s2 s3 s4 a2 a3 a4 aa bh H;go_wp2;go_meet;have O:=c6.out w3 (.slice a7 C.length a8) (int i64 G) (.bool ai) (.bool M) (.slice ag D.length ah);have I:=Q.out.sto (s':=⟨C,G,ai,M,D⟩) O (fH Q.out.st _ _ _ _ _) (cn.out.kp O (an.out.1.imp fun k m=>.inl m) (an.out.2.imp fun k m=>.inl m)) an.out (fun _=>bz.out);exact Z.out _ _ _ _ er F.out (I.kp (lX (vZ _ (fun k=>k=wr.heap.size+1)) (p:=⟨wr.heap.size+1,0,none⟩) (.inl rfl) _) (fun k h=>h)) ((((((E.out.oth (by omega) _).oth (by omega) _).oth (by omega) _).oth (by omega) _).oth (by omega) _).set (i:=0) (by simp) _)
       ·skip
        have X:(x.act == 2)=false:=by simp[h]
        have q3:(x.act == 3)=true:=by simpa using h
        obtain⟨fg,i0,ep,cb⟩:=byJ bz.out;obtain⟨z,ez,hz⟩:∃ z ez,K.iU (K.prt l x.q fg)=(z,ez):=⟨_,_,rfl⟩;obtain⟨ls,lu,ld,e1,hA⟩:∃ ls lu ld e1,eA x.u x.d x.lo x.hi l (K.rr rs) x.q=(ls,lu,ld,e1):=⟨_,_,_,_,rfl⟩;obtain⟨s',er,t2,ae⟩:=byX S (aG e1 x.bits) (tZ x.pn z ez lu ld) (fZ ls x.bits 0 []);have g6:=qQ (bzQ h bz.out cb hz hA ae);have eb:=qQ (byZ ae hu);have cu:Below B wr J:=cq.out.mono (bQ hB bw.out.size);have kP:=e7Q cm.out B nb ⟨S.disk,S.left,true,false,S.done⟩ s' (.slice da S.disk.length dc) (.slice na S.done.length nc) (.slice ca l.length cc) (.slice ra rs.length rc) l rs x.pn _ _ _ _ _ _ xa xc x.bits x.q x.u x.d x.lo x.hi J bp rfl rfl eh e4.out e6.out (gj.out.keep cu) (ga.out.keep cu) HX.out.1 HX.out.2.1 HX.out.2.2.1 HX.out.2.2.2.2.2.2 fg i0 ep z ez hz ls lu ld e1 hA er t2 (by rw[bR hu ac];exact ae)
        have gl:Hid (J.rangeAt wr.heap.size 5 [.string x.pn,int i64 kk,.string kc,int i64 kl,int i64 kh,.slice ka kn kd,.slice kb km kp,int i64 x.u,int i64 x.d,int i64 x.lo,int i64 x.hi,.slice xa x.bits.length xc]):=fun j v hj=>by
         have e:([.string x.pn,int i64 kk,.string kc,int i64 kl,int i64 kh,.slice ka kn kd,.slice kb km kp,int i64 x.u,int i64 x.d,int i64 x.lo,int i64 x.hi,.slice xa x.bits.length xc]:List Value)=(([int i64 x.act,int i64 x.n,.string x.nm,int i64 x.bu,int i64 x.bd,.string x.pn,int i64 kk,.string kc,int i64 kl,int i64 kh,.slice ka kn kd,.slice kb km kp,int i64 x.u,int i64 x.d,int i64 x.lo,int i64 x.hi,.slice xa x.bits.length xc,int i64 x.word]:List Value).drop 5).take 12:=rfl;rw[e,vN] at hj;split at hj
         ·rw[kK] at hj
          exact(a6.out (5+j) v hj).c
         ·cases hj
        clear hu hb ac h h6 h7 h8 ao ae bp ep cb hz hA cu;go_upto_region 27 with fail;refine oO ?_
        (iterate 9 go_step)
        refine kC rfl 55 _ rfl wr.heap.size 5 rfl _ _ gl.out underlying55 rfl akJ ?_;go_wp2_with fail;refine kP.mono ?_;rintro x3 w3 ⟨R,V,vv,us,p,q,br,aa,H,bh,c7⟩;obtain⟨a7,a8,rfl,_⟩:=aa.dk.1.slice;obtain⟨ag,ah,rfl,_⟩:=aa.dn.slice;obtain⟨C,G,ai,M,D⟩:=s'
        have N:yX (fun k=>k=w.heap.size+1\/u9.ownBlock=some k\/k=wr.heap.size+1) vv:=by
         rcases c7 with⟨_,rfl,_⟩|⟨_,vs,n,_,_,_,_,hr⟩
         ·exact K.P.yX.nil
         ·exact cK hr A.out.pl
        have gn:Hid (nF w3 (fun k=>k=w.heap.size+1\/u9.ownBlock=some k\/k=wr.heap.size+1) ⟨er,t2.map fun t=>(t.1,t.2,lu,ld),[]⟩ [int i64 er,vv,int i64 us,int i64 p,int i64 q,.slice none 0 0]):=by
         refine⟨vv,_,us,p,q,rfl,⟨N,K.P.yX.nil⟩,⟨none,0,rfl,vQ _,by simp,fun x h=>by(cases h),fun h=>absurd rfl h⟩,?_⟩;rcases c7 with⟨h0,rfl,rfl,rfl,rfl⟩|⟨h0,vs,n,h1,rfl,rfl,rfl,hr⟩
         ·rw[eb.out.1 h0];exact .inl ⟨rfl,rfl,rfl,rfl,rfl⟩
         ·rw[eb.out.2 h0,h1]
          exact .inr ⟨vs,n,rfl,rfl,K.P.bzX hr rfl (K.P.epJ hr)⟩
        obtain⟨va,vn,vc,rfl⟩:∃ a n c,vv=.slice a n c:=by
         rcases c7 with⟨_,rfl,_⟩|⟨_,vs,n,_,_,_,_,hr⟩
         ·exact⟨_,_,_,rfl⟩
         ·obtain⟨a,c,e⟩:=iY hr;exact⟨_,_,_,e⟩
        change x3=.returned (.tuple #[.agg #[.slice a7 C.length a8,int i64 G,.bool ai,.bool M,.slice ag D.length ah],.agg #[.slice va vn vc,int i64 us,int i64 p,int i64 q],int i64 er]) at br;subst br;have Q:=qQ (A.out.more H (fun k h=>.inl h));have E:=qQ (L.out.at H);have cn:=qQ aa;have an:Hid (yX (fun k=>k=w.heap.size+1\/u9.ownBlock=some k\/k=wr.heap.size+1) (.slice a7 C.length a8)/\yX (fun k=>k=w.heap.size+1\/u9.ownBlock=some k\/k=wr.heap.size+1) (.slice ag D.length ah)):=bh _ A.out.pl A.out.av.1 A.out.av.2;obtain⟨c0,c1,c2,c3,c4,f0,f1,f2,f3,f4,_⟩:=Q.out.st;have y0:=(E.out 0 _ rfl).c;have y1:=(E.out 1 _ rfl).c;have y2:=(E.out 2 _ rfl).c;have y3:=(E.out 3 _ rfl).c;have y4:=(E.out 4 _ rfl).c;have g0:=(E.out 0 _ rfl).f;have g1:=(E.out 1 _ rfl).f;have g2:=(E.out 2 _ rfl).f;have g3:=(E.out 3 _ rfl).f;have g4:=(E.out 4 _ rfl).f;clear kP s0 s1 s2 s3 s4 aa bh H c7 N;go_wp2;go_meet;have O:=c6.out w3 (.slice a7 C.length a8) (int i64 G) (.bool ai) (.bool M) (.slice ag D.length ah);have I:=Q.out.sto (s':=⟨C,G,ai,M,D⟩) O (fH Q.out.st _ _ _ _ _) (cn.out.kp O (an.out.1.imp fun k m=>.inl m) (an.out.2.imp fun k m=>.inl m)) an.out (fun _=>bz.out);have eo:∀ (W:World),Keeps W (((((W.setCell ⟨wr.heap.size+1,1,none⟩ (.slice va vn vc)).setCell ⟨wr.heap.size+1,2,none⟩ (int i64 us)).setCell ⟨wr.heap.size+1,3,none⟩ (int i64 p)).setCell ⟨wr.heap.size+1,4,none⟩ (int i64 q)).setCell ⟨wr.heap.size+1,0,none⟩ (int i64 er)) (fun k=>k=wr.heap.size+1):=fun W=>lX (lX (lX (lX (lX (vZ W (fun k=>k=wr.heap.size+1)) (p:=⟨wr.heap.size+1,1,none⟩) (.inl rfl) _) (p:=⟨wr.heap.size+1,2,none⟩) (.inl rfl) _) (p:=⟨wr.heap.size+1,3,none⟩) (.inl rfl) _) (p:=⟨wr.heap.size+1,4,none⟩) (.inl rfl) _) (p:=⟨wr.heap.size+1,0,none⟩) (.inl rfl) _;have bc:=((((E.out.oth (b':=w.heap.size+1) (k:=0) (by omega) (.slice a7 C.length a8)).oth (b':=w.heap.size+1) (k:=1) (by omega) (int i64 G)).oth (b':=w.heap.size+1) (k:=2) (by omega) (.bool ai)).oth (b':=w.heap.size+1) (k:=3) (by omega) (.bool M)).oth (b':=w.heap.size+1) (k:=4) (by omega) (.slice ag D.length ah);have cj:=((((bc.set (i:=1) (by simp) (.slice va vn vc)).set (i:=2) (by simp) (int i64 us)).set (i:=3) (by simp) (int i64 p)).set (i:=4) (by simp) (int i64 q)).set (i:=0) (by simp) (int i64 er);have ax:=I.kp (eo _) (fun k h=>h);have gm:=(gn.out.kp O (fun k m=>.inl m) (fun k m=>.inl m)).kp (eo _) (fun k m=>.inr (.inr m)) (fun k m=>.inl m);exact⟨.slice a7 C.length a8,.slice ag D.length ah,⟨C,G,ai,M,D⟩,_,er,us,p,q,va,vn,vc,none,0,0,g6.out,ax,cj,gm⟩
       ·as_aux_lemma =>
        have X:(x.act == 2)=false:=by simp[h]
        have q3:(x.act == 3)=false:=by simp[h]
        have q5:(x.act == 5)=true:=by simpa using h
        have F:Hid (kZ l (K.rr rs) S x=(S,⟨0,none,S.done⟩)):=b4Q h hu ac;have y5:=(L.out 5 _ rfl).c;have g5:=(L.out 5 _ rfl).f;clear hu hb ac h h6 h7 h8 ao bp;go_wp2;go_meet;have O:Keeps J (J.setCell ⟨wr.heap.size+1,5,none⟩ (.slice na S.done.length nc)) (fun k=>k=wr.heap.size+1):=lX (vZ J (fun k=>k=wr.heap.size+1)) (p:=⟨wr.heap.size+1,5,none⟩) (.inl rfl) _;exact⟨_,_,S,⟨0,none,S.done⟩,0,0,0,0,none,0,0,na,S.done.length,nc,F.out,A.out.kp O (fun k h=>h),L.out.set (i:=5) (by simp) _,⟨_,_,_,_,_,rfl,⟨K.P.yX.nil,A.out.av.2⟩,(K.P.fR A.out.sm.dn (vQ _) O (A.out.av.2.imp fun k m=>.inr (.inr m))).mono O.size,.inl ⟨rfl,rfl,rfl,rfl,rfl⟩⟩⟩
     ·as_aux_lemma =>
      have d4:S.up=false:=by simpa using hu
      have F:=e8X (l:=l) (ts:=K.rr rs) (x:=x) dz.out d4;have F:Hid _:=F;rw[d4] at s2;clear hu d4 h6 h7 h8 T s0 s1 s3 s4;refine ao _ (fun X=>?_) (fun X q3=>?_) (fun X q3 q5=>?_)
      all_goals
       clear ao;go_wp2;go_meet;exact Z.out _ _ _ S 0 F.out A.out L.out
    ·as_aux_lemma =>
     have X:(x.act == 2)=false:=by simp only[not_or] at T;simpa using T.1
     have q3:(x.act == 3)=false:=by simp only[not_or] at T;simpa using T.2.1
     have q5:(x.act == 5)=false:=by simp only[not_or] at T;simpa using T.2.2
     have F:Hid (kZ l (K.rr rs) S x=(S,⟨0,none,[]⟩)):=by
      simp only[not_or] at T;unfold kZ bD;rw[Hid,zQ (fun c=>h8 c.1),zQ h6,zQ h7,zQ T.1,zQ T.2.1,zQ T.2.2];rfl
     clear h6 h7 h8 T;go_wp2;go_meet;exact Z.out _ _ _ S 0 F.out A.out L.out
   case rest =>
    obtain⟨R,V,s',x',er,us,lu,ld,ta,tn,tc,ea,en,ec,HE,HJ,am,e8⟩:=hcut;have gf:Hid _:=gp.out s' x' HE.out;have r0:=(am.out 0 _ rfl).c;have r1:=(am.out 1 _ rfl).c;have r2:=(am.out 2 _ rfl).c;have r3:=(am.out 3 _ rfl).c;have r4:=(am.out 4 _ rfl).c;have r5:=(am.out 5 _ rfl).c;go_upto_region 29 with fail;refine oO ?_;(iterate 6 go_step);refine eqX HJ.out e8.out (by have:=gi.out;omega) hd fc fd fe rfl _ rfl _ rfl rfl (b3Q _ _ _ _ _ _ _ _ _ _) rfl _ _ rfl rfl rfl ?_;intro g9 cap w5 h5;clear r0 r1 r2 r3 r4 r5 am e8;go_wp2
    go_roundw
    case rel =>
     exact⟨i+1,R,V,by go_num,h1,by rw[gf.out];exact h5⟩
    case measure=>simp[intOf];omega
  ·obtain rfl:i=xs.length:=by omega
   rw[bU] at HI;obtain⟨S,os,ak⟩:∃ S os,vU l (K.rr rs) ⟨words,-1,false,false,[]⟩ xs=(S,os):=⟨_,_,rfl⟩;rw[ak] at HI;have go:=qQ ak;clear ak;obtain⟨da,dc,rfl,_⟩:=HI.out.sm.dk.1.slice;have p0:=HI.out.st.c0;go_wp2
   go_region
   go_wp2;have q1:=ck.out;have X:=HI.out.be;exact eQ (v:=.tuple #[u9,.slice da S.disk.length dc]) (by simp[results,results5,go_sem]) rfl ⟨Y,_,_,_,_,_,S,os,rfl,go.out,Below.drew ⟨X.os.trans q1.os,X.tape.trans q1.tape,X.output.trans q1.output,bQ q1.size X.size,fun k O=>(X.block k (by omega)).trans (q1.block k O)⟩,HI.out.more (uQ _ _).drew (fun k h=>h.elim)⟩
end
namespace K.P
open Go.RowKit K.Ds
open Go.Maps Go.Sort
def aY (done:List En):List (List UInt8):=((bY done).map (fun x=>x.data.toList)).mergeSort (fun x y=>decide (x<=y))
theorem e9Q (done:List En):(aY done).length=(bY done).length:=by simp[aY]
end K.P
namespace K.P
open Go.RowKit Go.Shelf K.Ds
theorem uC:(prog.info? 9).map (fun i=>(i.zero,i.size,i.bytes))=some (some (.string ⟨#[]⟩),1,16):=by kernel_rfl
end K.P
namespace K.P
open Go.RowKit K.Ds
theorem alQ (l m:List En)(n:ByteArray):iX (l++m) n=(iX l n).or (iX m n):=by
 unfold iX;rw[List.find?_append];cases List.find? (fun e=>decide (e.1=1/\e.2.1=n)) l <;> simp
theorem e9X {l:List En}{p u v:Int}(a:iX (l.take i) n=none)(m:l[i]? = some (d,nm,p,u,v)) :
  (d=1/\nm=n->iX l n=some (u,v))/\(¬ (d=1/\nm=n)->iX (l.take (i+1)) n=none):=by
 have g:l.take (i+1)=l.take i++[(d,nm,p,u,v)]:=by rw[rX,m];rfl
 constructor
 ·intro h
  have j:iX (l.take (i+1)) n=some (u,v):=by
   rw[g,alQ,a];simp[iX,h]
  have k:l=l.take (i+1)++l.drop (i+1):=(xN _ _).symm;rw[k,alQ,j];rfl
 ·intro h
  rw[g,alQ,a];simp only[Option.none_or];unfold iX;simp only[List.find?_cons,List.find?_nil];rw[lZ h];rfl
theorem e9Z (B:Nat)(v:Value)(l:List En)(A:ByteArray)(w:World)(hB:B<=w.heap.size)(L:uJ w B v l)(b:Option Rq)(U:iX l A=b) :
  Calls prog 61 #[v,.string A] w (iQ w (.tuple #[rvq (b.getD (0,0)),.bool b.isSome])):=by
 have HX:=qQ L;have P:=qQ U;obtain⟨a,c,rfl,hc,hl⟩:=L.slice;clear U L;have V0:Hid (TwoB (w.alloc (.cells #[int i64 0,int i64 0] 37)) w.heap.size (int i64 0) (int i64 0)):=TwoB.new _ _ _ 37 _ rfl;go_enter func61,ntmps61;go_wp2
 go_loopw [10] (fun s wr=>∃ (i:Nat),s=int i64 (i:Int)/\i<=l.length/\Hid (iX (l.take i) A=none)/\Below (w.heap.size+1) (w.alloc (.cells #[int i64 0,int i64 0] 37)) wr) (fun s _=>l.length - (intOf s).toNat)
 case atStart=>exact⟨0,rfl,dQ _,by simp[Hid,iX],uQ _ _⟩
 case round =>
  obtain⟨i,rfl,hi,Q,g⟩:=hrel;have y:xQ w wr:=(ba w _).trans (g.mono (by omega));have R:TwoB wr w.heap.size (int i64 0) (int i64 0):=V0.out.below (g.mono (by simp));have C:=qQ R;obtain⟨r0,r1,af,ag,ac⟩:=R;by_cases h1:i<l.length
  ·obtain⟨bb,o,d,nm,p,u,v,rfl,a9,V,e0,e1,e2,e3,e4,_⟩:=HX.out.get hB y h1
   have j:=qQ (e9X Q.out V);clear V;obtain⟨X,T⟩:∃ X,wr.alloc (.cells #[int i64 d,.string nm,int i64 p,int i64 u,int i64 v] 72)=X:=⟨_,rfl⟩;have m:xQ wr X:=by rw[<-T];exact ba _ _
   have D:=qQ (C.out.below m);have J:=g.size;have O:Below (w.heap.size+1) (w.alloc (.cells #[int i64 0,int i64 0] 37)) X:=g.trans (m.mono (by simp at J;omega));have S:=FivB.new wr (int i64 d) (.string nm) (int i64 p) (int i64 u) (int i64 v) 72 _ rfl;rw[T] at S;obtain⟨x0,x1,x2,x3,x4,_,_,_,_,_,aa⟩:=S;by_cases E:d=1
   ·subst E
    by_cases z:nm=A
    ·have Y:(nm.toList == A.toList)=true:=by rw[wG];simpa using z
     have H:some (u,v)=b:=by rw[<-P.out];exact(j.out.1 ⟨rfl,z⟩).symm
     subst H;obtain⟨y0,y1,ah,ai,ae⟩:=D.out;have Z:=D.out.put (int i64 u) (int i64 v);obtain⟨M,N,_,_,_⟩:=Z;have F:xQ w ((X.setCell ⟨w.heap.size,0,none⟩ (int i64 u)).setCell ⟨w.heap.size,1,none⟩ (int i64 v)):=bs (bs (bt y m) (vQ _) _) (vQ _) _;clear z;go_wp2;exact eQ (v:=.tuple #[rv u v,.bool true]) (by simp[results,results61,go_sem,M,N]) rfl ⟨rfl,F⟩
    ·have Y:(nm.toList == A.toList)=false:=by rw[wG];simpa using z
     have k:=qQ (j.out.2 (fun h=>z h.2));clear z;go_wp2
     go_roundw
     case rel=>exact⟨i+1,by go_num,by omega,k,O⟩
     case measure=>simp[intOf];omega
   ·have Y:(d == 1)=false:=by simpa using E
    have k:=qQ (j.out.2 (fun h=>E h.1));clear E;go_wp2
    go_roundw
    case rel=>exact⟨i+1,by go_num,by omega,k,O⟩
    case measure=>simp[intOf];omega
  ·have I:i=l.length:=by omega
   subst I;have G:none=b:=by rw[<-P.out];have h:=Q.out;rw[bU] at h;exact h.symm
   subst G;have Z:=C.out.put (int i64 0) (int i64 0);obtain⟨M,N,_,_,_⟩:=Z;have F:xQ w ((wr.setCell ⟨w.heap.size,0,none⟩ (int i64 0)).setCell ⟨w.heap.size,1,none⟩ (int i64 0)):=bs (bs y (vQ _) _) (vQ _) _;go_wp2;exact eQ (v:=.tuple #[rv 0 0,.bool false]) (by simp[results,results61,go_sem,M,N]) rfl ⟨rfl,F⟩
end K.P
namespace K.P
open Go.RowKit Go.Shelf K.Ds
theorem e9J (nm:ByteArray):encStr nm.data.toList=.string nm:=by cases nm;simp
theorem faQ (g:Option Addr)(n h k:Nat)(m:k<=h)(W:World):(Instr.slice 149 (.slice g n h) none (some (int i64 (k:Int))) none).run prog W=.ok (.slice g k h) W:=by
 have i:prog.elem 149=9:=by simp[Program.elem,underlying149]
 rw[run_slice_h (P:=prog) (w:=W) (t:=149) (a:=g) (len:=n) (cap:=h) (by rw[i];exact underlying149) .i64 (k:Int) (by omega) (by omega),i];have l:(sizeOf 9).run prog W=.ok 1 W:=by obtain⟨o,hi,_,j,_⟩:=pZ uC;simp[sizeOf,typeInfo,hi,j]
 rw[l];simp only[oH,sliced,tF,Nat.sub_zero,zS]
 have:(if h=0 then g else Option.map (fun x=>x.add 0) g)=g:=by
  split
  ·rfl
  ·cases g <;> simp[Addr.add]
 rw[this]
theorem faX (g:Option Addr)(n h k:Nat)(m:k<=n)(W:World):(Instr.slice 149 (.slice g n h) (some (int i64 (k:Int))) none none).run prog W=.ok (.slice (if h=k then g else g.map (·.add k)) (n - k) (h - k)) W:=by
 have i:prog.elem 149=9:=by simp[Program.elem,underlying149]
 rw[run_slice_l (P:=prog) (w:=W) (t:=149) (a:=g) (len:=n) (cap:=h) (by rw[i];exact underlying149) .i64 (k:Int) (by omega) (by omega),i];have l:(sizeOf 9).run prog W=.ok 1 W:=by obtain⟨o,hi,_,j,_⟩:=pZ uC;simp[sizeOf,typeInfo,hi,j]
 rw[l];simp only[oH,sliced,tF,Nat.mul_one]
theorem faZ (D:List Nat)(R:(Nat->Bool)->(Nat->Value)->World->Prop)(top:List Nat)(i:P.follows .mixedOrders=true)(l:iT P Q a D R top ops.toList)(g:(eM ops [] top && top == List.range' 0 ops.toList.length)=true)
  (h:∀ L u w,(∀ j∈top,L j=true)->R L u w->Q .normal (ov a D u) w) (h0:R (fun _=>false) (fun k=>a.tmps.getD k undef) { w with drawn:=w.drawn+1 }):(Code.region id ops true).wp P Q a w:=by
 rw[eI,beq_iff_eq] at g;exact a6Z _ top i (fW _ 0 (gW _ 0 (g.2▸l))) g.1 (fun L a' w' hL ⟨u,e,hR⟩=>by subst e;exact h L u w' hL hR) ⟨_,a6J a D,h0⟩
theorem alX:oP 149 9 1 16:=by
 obtain⟨i,h,a,g,j⟩:=pZ uC;exact⟨i,_,underlying149,h,a,g,j,rfl,by decide,by decide⟩
