import Derived.Test.YtdceajgpolckiaaGreatDoorQs28
import Derived.Test.YtdceajgpolckiaaGreatDoorQs18
import Derived.Laws.Bits
import Derived.Laws.Shifts
import Derived.Deep.RegionLaw
import Derived.Laws.CopyOwn
import Derived.Deep.OwnRows
open Go.Proofs.Tryz
set_option linter.unusedSimpArgs false
set_option maxHeartbeats 16000000
set_option maxRecDepth 100000
namespace Go.Proofs.YtdceajgpolckiaaGreatDoor
namespace K.P
open Go.RowKit K.Ds
theorem czQ (bud al ls:Rq)(bm:Nat)(part:Int)(w:World)(hp:part<0\/1073741824<part) :
  Calls prog 163 #[pv bud al bm,.int .i64 part,rvq ls] w fun x w'=>x=.returned (.tuple #[zp,.int .i64 3])/\Below w.heap.size w w':=by
 by_cases h:part<0
 ·clear hp
  go_enter func163,ntmps163;go_wp2_with fail;exact yQ (v:=.tuple #[zp,.int .i64 3]) (by simp[results,results163,go_sem]) rfl ⟨rfl,bal (bal (ba _ _) _) _⟩
 ·have h2:1073741824<part:=by omega
  clear hp;go_enter func163,ntmps163;go_wp2_with fail;exact yQ (v:=.tuple #[zp,.int .i64 3]) (by simp[results,results163,go_sem]) rfl ⟨rfl,bal (bal (ba _ _) _) _⟩
theorem czX (N:Nat->Prop)(bk bm n:Nat)(v:Value)(D:DataW Value)(done:List En)(nm:ByteArray)(p u v':Int)(w:World)(hB:BookM w N bk bm n v D done)(hs:nm.size<=4294967296)(b:Rq)(hbud:yX done nm=some b)(fp:Rq)(hfp:(lQ done nm p).1=fp)(m:Rq)(ht:(kQ fp (u,v')).2=0->Top (fun y=>if y=p then (kQ fp (u,v')).1 else (lQ done nm y).1) (fun y=>y∈prs done nm\/y=p) m)(hob:oQ b)(hls:oQ (u,v'))(er:Int)(her:vH b (jX done nm).1 fp (u,v') m (decide (p∈prs done nm)) (bZ done nm).length p=er)(hpI:-9223372036854775808<=p/\p<=9223372036854775807) :
  Calls prog 106 #[.pointer (some ⟨bk,0,none⟩),ev (3,nm,p,u,v')] w (cxZ w done nm b (jX done nm).1 (kQ fp (u,v')).1 p er):=by
 have HB:Hid (BookM w N bk bm n v D done):=hB;obtain⟨w0,hw0⟩:∃ w0,(w.alloc (.cells #[.int .i64 3,.string nm,.int .i64 p,.int .i64 u,.int .i64 v'] 53)).alloc (.cells #[.int .i64 0,.int .i64 0,.int .i64 0,.int .i64 0,.map none] 207)=w0:=⟨_,rfl⟩;have hz0:w0.heap.size=w.heap.size+1+1:=by rw[<-hw0];simp
 have B0:Below w.heap.size w w0:=by rw[<-hw0];exact bal (ba _ _) _
 have V0:Hid (FivB w0 w.heap.size (.int .i64 3) (.string nm) (.int .i64 p) (.int .i64 u) (.int .i64 v')):=by rw[<-hw0];exact(FivB.new _ _ _ _ _ _ 53 _ rfl).below (ba _ _)
 have V1:Hid (FivB w0 (w.heap.size+1) (.int .i64 0) (.int .i64 0) (.int .i64 0) (.int .i64 0) (.map none)):=by rw[<-hw0];exact FivB.new _ _ _ _ _ _ 207 _ (by simp)
 have BK:Hid (BookM w0 N bk bm n v D done):=hB.keep B0;obtain⟨bp,np,Dp,hat,hPp,hnp,hszp,hlop,hbpk,hbpm⟩:=(hB.el nm b hbud).ex;have hhas:Maps.has D (kN nm)=true:=(hB.is nm).2 ⟨b,hbud⟩;have HX:Hid (np<=done.length/\Maps.size Dp=(bZ done nm).length/\N bp/\bp≠bk/\bp≠bm):=⟨hnp,hszp,hlop,hbpk,hbpm⟩;have HPp:Hid (Pts w bp np Dp (fun p=>p∈prs done nm) (fun p=>(lQ done nm p).1)):=hPp;have HBU:Hid (yX done nm=some b):=hbud;clear hnp hszp hlop hbpk hbpm hPp hbud;obtain⟨al,hal⟩:∃ al,(jX done nm).1=al:=⟨_,rfl⟩;have HAL:Hid ((jX done nm).1=al):=hal;rw[hal] at hat;clear hal;have hlk1:=BK.out.lookAt hs hat hhas (xJ (cX w0 none));have hlk2:=BK.out.lookAt hs hat hhas (xJ (eU (cX w0 none) (.cells #[.int .i64 0,.int .i64 0,.int .i64 0,.int .i64 0,.map none] 207)));obtain⟨c0,c1,c2,c3,c4,f0,f1,f2,f3,f4,hl0⟩:=V0.out;obtain⟨d0,d1,d2,d3,d4,g0,g1,g2,g3,g4,hl1⟩:=V1.out;obtain⟨t0,t1,tf0,tf1,htl⟩:=BK.out.two;have hbk:bk<w.heap.size:=HB.out.two.lt;have hbk2:bk<w.heap.size+1+1:=by omega
 clear hB hat hhas;rw[HAL.out] at her;rw[HAL.out];have hal1:oQ al:=HAL.out▸(HB.out.inv.all nm).2;have hln:=HB.out.inv.len;have hof:oQ fp:=hfp▸(HB.out.inv.prt nm p).2;have hnpb:np+1<=1048576:=by have:=HX.out.1;omega
 have ko:∀ W,Pts W bp np Dp (fun p=>p∈prs done nm) (fun p=>(lQ done nm p).1)->Calls prog 163 #[pv b al bp,.int .i64 p,rvq (u,v')] W (bB W b al np (bZ done nm).length (decide (p∈prs done nm)) (fun p=>p∈prs done nm) (fun p=>(lQ done nm p).1) p (kQ fp (u,v')).1 er):=fun W hW=>by
  by_cases hr:0<=p/\p<=1073741824
  ·cases hth:decide (p∈prs done nm) with
   | true =>
    rw[hth] at her;exact cuX b al (u,v') fp bp np _ Dp _ _ p W hW hnpb HX.out.2.1 hr (eH hth) hfp hof m ht hal1 hob hls er her
   | false =>
    rw[hth] at her;have hno:¬ p∈prs done nm:=wL hth;exact cuZ b al (u,v') fp bp np _ Dp _ _ p W hW hnpb HX.out.2.1 hr hno (by rw[<-hfp,cnJ hno]) hof m ht hal1 hob hls er her
  ·have he3:3=er:=by rw[<-her,vH,zQ (by omega)]
   subst he3;refine(czQ b al (u,v') bp p W (by omega)).mono ?_;rintro x w' ⟨h1,h2⟩;exact⟨h2,.inl ⟨by decide,h1⟩⟩
 have P1:Hid (Pts (w0.alloc (.cells #[.int .i64 b.1,.int .i64 b.2,.int .i64 al.1,.int .i64 al.2,.map (some bp)] 207)).drew bp np Dp (fun p=>p∈prs done nm) (fun p=>(lQ done nm p).1)):=(HPp.out.keep (bal B0 _)).gb (xJ (cX _ none)) (by simp);have W1:Hid (FivB (w0.alloc (.cells #[.int .i64 b.1,.int .i64 b.2,.int .i64 al.1,.int .i64 al.2,.map (some bp)] 207)).drew (w.heap.size+1) (.int .i64 0) (.int .i64 0) (.int .i64 0) (.int .i64 0) (.map none)):=(V1.out.below (ba _ _)).gb (xJ (cX _ none)) (by simp);have hbpl:bp<w.heap.size:=HPp.out.own.lt;clear her hln ht hfp;go_enter func106,ntmps106;go_wp2_with fail
 go_region
 all_goals
  go_wp2_with fail;refine(ko _ P1.out).mono ?_;rintro e1 w1 ⟨hb1,⟨hne,rfl⟩|⟨rfl,b2,D2,rfl,hlo2,hP2,hsz2⟩⟩
  ·obtain⟨x0,x1,x2,x3,x4,y0,y1,y2,y3,y4,hx⟩:=W1.out.below hb1
   go_wp2_with fail;exact yQ (v:=.tuple #[zp,.int .i64 er]) (by simp[results,results106,go_sem,x0,x1,x2,x3,x4]) rfl ⟨nJ (bt (bal B0 _).drew hb1) (by omega) _ _ _ _ _,.inl ⟨hne,rfl⟩⟩
  ·obtain⟨x0,x1,x2,x3,x4,y0,y1,y2,y3,y4,hx⟩:=W1.out.below hb1
   have hlo3:w.heap.size+1+1<b2:=by simp[hz0] at hlo2;omega
   go_wp2_with fail;exact yQ (v:=.tuple #[pv b al b2,.int .i64 0]) (by simp[results,results106,go_sem,x0,x1,x2,x3,x4]) rfl ⟨nJ (bt (bal B0 _).drew hb1) (by omega) _ _ _ _ _,.inr ⟨rfl,b2,np,D2,rfl,hP2.gb (sQ (sQ (sQ (sQ (sQ (cX _ _) _ _) _ _) _ _) _ _) _ _) (by simp;omega),HX.out.1,hsz2,by omega⟩⟩
theorem Pts.congr {w:World}{b n:Nat}{D:DataW Value}{P Q:Int->Prop}{f g:Int->Rq}(h:Pts w b n D P f)(hP:∀ z,P z↔Q z)(hf:∀ z,P z->f z=g z):Pts w b n D Q g :=
 ⟨h.own,fun z=>(h.is z).trans (hP z),fun z hz=>by rw[h.el z ((hP z).2 hz),hf z ((hP z).2 hz)],fun z hz=>h.rng z ((hP z).2 hz)⟩
theorem cB (e:En):eZ (nrm e)=eZ e:=by unfold eZ;rw[adX,jP,adZ]
theorem ajJ (N:Nat->Prop)(bk bm n:Nat)(v:Value)(D:DataW Value)(done:List En)(e:En)(w:World)(hB:BookM w N bk bm n v D done)(hs:e.2.1.size<=4294967296)(hN:∀ k,w.heap.size<=k->N k)(hbad:eZ e=0)(hl:done.length<4096)(hpI:-9223372036854775808<=e.2.2.1/\e.2.2.1<=9223372036854775807)(er:Int)(her:qZ done (nrm e)=er) :
  Calls prog 106 #[.pointer (some ⟨bk,0,none⟩),ev e] w (cwJ w N bk bm done (nrm e) er):=by
 have hbad':eZ (nrm e)=0:=by rw[cB];exact hbad
 obtain⟨b1,b2,b3,b4⟩:=gD hbad;have hinv:=hB.inv;have hbmlt:=hB.own.lt;have hbklt:=hB.two.lt;obtain⟨d,nm,p,u,v'⟩:=e;simp only at hs b1 b2 b3 b4 hpI;have hd:d=1\/d=2\/d=3:=by omega
 rcases hd with rfl|rfl|rfl
 ·rw[show nrm (1,nm,p,u,v')=(1,nm,0,u,v') from by simp[nrm]] at *
  rw[mM hbad' hl] at her;cases hbud:yX done nm with
  | some b =>
   simp only[hbud,↓reduceIte] at her;subst her;refine(cxJ N bk bm n v D done nm p u v' w hB hs b hbud).mono ?_;rintro x w' ⟨h1,h2⟩;exact⟨h1,.inl ⟨by decide,h2⟩⟩
  | none =>
   simp only[hbud,↓reduceIte] at her;refine(cyZ N bk bm n v D done nm p u v' w hB hs hbud _ rfl er her).mono ?_;rintro x w' ⟨h1,h2|⟨h2,bp,h3,h4,h5⟩⟩
   ·exact⟨h1,.inl h2⟩
   ·obtain⟨k1,k2⟩:=cwX hinv hbud
    have k3:prs (done++[(1,nm,0,u,v')]) nm=[]:=by rw[iM (by simp)];exact k1
    have k4:jX (done++[(1,nm,0,u,v')]) nm=(uZ,0):=by rw[dL (by simp)];exact k2
    refine⟨h1,.inr ⟨h2,(u,v'),bp,0,_,by rw[k4];exact h3,?_,h5.congr (fun z=>by simp[k3]) (fun _ h=>h.elim),by omega,?_,hN _ (by omega),by omega,by omega⟩⟩
    ·rw[qK,hbud];simp
    ·simp[bZ,k3,lU,Maps.size]
 ·rw[show nrm (2,nm,p,u,v')=(2,nm,0,u,v') from by simp[nrm]] at *
  cases hbud:yX done nm with
  | none =>
   rw[mM hbad' hl] at her;simp only[hbud] at her;rw[qQ (by decide)] at her;subst her;refine(cyQ N bk bm n v D done nm p u v' w hB hs hbud).mono ?_;rintro x w' ⟨h1,h2⟩;exact⟨h1,.inl ⟨by decide,h2⟩⟩
  | some b =>
   rw[cvJ hinv hbad' hl rfl hbud] at her
   have hob:oQ b:=by
    unfold yX at hbud;simp only[dR] at hbud;obtain⟨x,hx,rfl⟩:=hbud;exact(gD (hinv.bad x (List.mem_of_find?_eq_some hx)).1).2.2.2
   refine(cyJ N bk bm n v D done nm p u v' w hB hs b hbud _ (hinv.top nm).2 hob b4 er her).mono ?_;rintro x w' ⟨h1,h2|⟨h2,bp,np,Dp,h3,h4,h5,h6,h7⟩⟩
   ·exact⟨h1,.inl h2⟩
   ·have k3:prs (done++[(2,nm,0,u,v')]) nm=prs done nm:=iM (by simp)
    have k5:lQ (done++[(2,nm,0,u,v')]) nm=lQ done nm:=funext fun y=>xK (by simp)
    have k4:jX (done++[(2,nm,0,u,v')]) nm=kQ (jX done nm).1 (u,v'):=by
     rcases aP (e:=(2,nm,0,u,v')) hinv rfl b4 with⟨j1,_⟩|⟨_,_,j3,_⟩
     ·exfalso
      rw[h2] at her;unfold eL at her;simp only at j1;rw[j1] at her;simp at her
     ·exact j3
    refine⟨h1,.inr ⟨h2,b,bp,np,Dp,by simp only[k4];exact h3,?_,?_,by omega,?_,h7⟩⟩
    ·rw[qK,hbud];simp
    ·simp only[k3,k5];exact h4
    ·simp only[bZ,k3];exact h6
 ·rw[show nrm (3,nm,p,u,v')=(3,nm,p,u,v') from by simp[nrm]] at *
  cases hbud:yX done nm with
  | none =>
   rw[mM hbad' hl] at her;simp only[hbud] at her;rw[qQ (by decide)] at her;subst her;refine(cyX N bk bm n v D done nm p u v' w hB hs hbud).mono ?_;rintro x w' ⟨h1,h2⟩;exact⟨h1,.inl ⟨by decide,h2⟩⟩
  | some b =>
   have hob:oQ b:=by
    unfold yX at hbud;simp only[dR] at hbud;obtain⟨x,hx,rfl⟩:=hbud;exact(gD (hinv.bad x (List.mem_of_find?_eq_some hx)).1).2.2.2
   have k3:∀ z,z∈prs (done++[(3,nm,p,u,v')]) nm↔(z∈prs done nm\/z=p):=fun z=>by rw[yP,zQ ⟨rfl,rfl⟩];simp
   have k5:(kQ (lQ done nm p).1 (u,v')).2=0->∀ z,(lQ (done++[(3,nm,p,u,v')]) nm z).1=if z=p then (kQ (lQ done nm p).1 (u,v')).1 else (lQ done nm z).1:=fun h0 z=>by
    by_cases hz:z=p
    ·subst hz
     have:=aeX (e:=(3,nm,z,u,v')) hinv rfl;simp only at this;rw[this,zQ h0];simp
    ·rw[qQ hz,xK (fun c=>hz c.2.2.symm)]
   obtain⟨m,hm⟩:∃ m,(kQ (lQ done nm p).1 (u,v')).2=0->Top (fun y=>(lQ (done++[(3,nm,p,u,v')]) nm y).1) (fun y=>y∈prs (done++[(3,nm,p,u,v')]) nm) m:=by
    rcases bP (e:=(3,nm,p,u,v')) hinv rfl b4 with⟨j1,_⟩|⟨_,_,_,_,m,j5⟩
    ·simp only at j1
     exact⟨uZ,fun h=>by rw[j1] at h;simp at h⟩
    ·exact⟨m,fun _=>j5⟩
   rw[cwQ hinv hbad' hl rfl hbud m hm] at her;refine(czX N bk bm n v D done nm p u v' w hB hs b hbud _ rfl m (fun h0=>(hm h0).congr k3 (fun z _=>k5 h0 z)) hob b4 er her hpI).mono ?_;rintro x w' ⟨h1,h2|⟨h2,bp,np,Dp,h3,h4,h5,h6,h7⟩⟩
   ·exact⟨h1,.inl h2⟩
   ·have h0:(kQ (lQ done nm p).1 (u,v')).2=0:=by
     rcases jH (hinv.prt nm p).2 b4 with⟨j1,_⟩|j1
     ·exact j1
     ·exfalso
      rw[h2] at her;unfold vH at her;simp only[j1] at her;split at her
      ·omega
      ·split at her
       ·omega
       ·simp at her
    have k4:jX (done++[(3,nm,p,u,v')]) nm=jX done nm:=dL (by simp);refine⟨h1,.inr ⟨h2,b,bp,np+1,Dp,by simp only[k4];exact h3,?_,h4.congr (fun z=>(k3 z).symm) (fun z _=>(k5 h0 z).symm),by omega,?_,hN _ (by omega),by omega,by omega⟩⟩
    ·rw[qK,hbud];simp
    ·simp only
     rw[h6,xB];by_cases c:p∈prs done nm
     ·have c':p∈bZ done nm:=(uP _ _ _).2 c
      simp[c,c']
     ·have c':p ∉ bZ done nm:=fun k=>c ((uP _ _ _).1 k)
      simp[c,c']
structure Keeps (w w':World) (N:Nat->Prop):Prop where
 os:w'.os=w.os
 tape:w'.tape=w.tape
 output:w'.output=w.output
 size:w.heap.size<=w'.heap.size
 block:∀ k,k<w.heap.size->¬ N k->w'.heap[k]? = w.heap[k]?
theorem Keeps.trans {a b c:World}{N:Nat->Prop}(h:Keeps a b N)(k:Keeps b c N):Keeps a c N :=
 ⟨k.os.trans h.os,k.tape.trans h.tape,k.output.trans h.output,aQ h.size k.size,fun i hi hr=>(k.block i (zX hi h.size) hr).trans (h.block i hi hr)⟩
theorem nQ {a b:World}{N:Nat->Prop}(h:Below a.heap.size a b):Keeps a b N:=⟨h.os,h.tape,h.output,h.size,fun k hk _=>h.block k hk⟩
theorem eaX {a b:World}{N:Nat->Prop}{r:Option Nat}(h:a.grownBy b r)(hr:∀ k,r=some k->N k\/a.heap.size<=k):Keeps a b N:=⟨h.os,h.tape,h.output,h.size,fun k hk hn=>h.block k hk (fun e=>by rcases hr k e.symm with h|h;exact hn h;omega)⟩
theorem dB {a b c:World}{N:Nat->Prop}{r:Option Nat}(h:Keeps a b N)(k:b.grownBy c r)(hr:∀ k,r=some k->N k\/a.heap.size<=k):Keeps a c N :=
 ⟨k.os.trans h.os,k.tape.trans h.tape,k.output.trans h.output,aQ h.size k.size,fun i hi hn=>(k.block i (zX hi h.size) (fun e=>by rcases hr i e.symm with h|h;exact hn h;omega)).trans (h.block i hi hn)⟩
def DoP (w:World) (N:Nat->Prop) (bk bm:Nat) (done:List En) (e:En):Ending->World->Prop:=fun x w' =>
 x=.returned (.int .i64 (qZ done (nrm e)))/\Keeps w w' N/\∃ n v D,BookM w' N bk bm n v D (rY done e)
theorem oP:(prog.info? 53).map (fun i=>(i.zero,i.size,i.bytes))=some (some (.agg #[.int .i64 0,.string ⟨#[]⟩,.int .i64 0,.int .i64 0,.int .i64 0]),5,48):=by kernel_rfl
theorem BookM.slice {w:World}{N:Nat->Prop}{bk bm n:Nat}{v:Value}{D:DataW Value}{done:List En}(h:BookM w N bk bm n v D done):∃ a c,v=.slice a done.length c:=by
 rcases h.row.2 with⟨hv,h0⟩|⟨g,cap,cur,hv,_⟩
 ·exact⟨none,0,by rw[hv,h0]⟩
 ·exact⟨_,_,hv⟩
theorem czZ (N:Nat->Prop)(bk bm n:Nat)(v:Value)(D:DataW Value)(done:List En)(e:En)(w:World)(hB:BookM w N bk bm n v D done)(hs:e.2.1.size<=9223372036854775807)(hb:eZ e≠0\/4096<=done.length) :
  Calls prog 60 #[.pointer (some ⟨bk,0,none⟩),ev e] w fun x w'=>x=.returned (.int .i64 (qZ done (nrm e)))/\Below w.heap.size w w':=by
 obtain⟨er,her⟩:∃ er,qZ done (nrm e)=er:=⟨_,rfl⟩;rw[her];obtain⟨eb,heb⟩:∃ eb,eZ e=eb:=⟨_,rfl⟩;have kw:=fun W=>wH e (by omega) W eb heb;have hbk:=hB.two.lt;obtain⟨va,vc,rfl⟩:=hB.slice;unfold qZ at her;rw[cB,heb] at her;by_cases h0:eb=0
 ·subst h0
  have hl:4096<=done.length:=by rcases hb with h|h;exact absurd heb h;exact h
  rw[qQ (by simp),zQ hl] at her;subst her;have hq:decide ((4096:Int)<=(done.length:Int))=true:=uG (by omega);have T0:Hid (TwoB w bk (.map (some bm)) (.slice va done.length vc)):=hB.two;clear hb hl heb hB;obtain⟨d,nm,p,u,v'⟩:=e;go_enter func60,ntmps60;go_wp2_with fail;refine(kw _).mono ?_;rintro e1 w1 ⟨rfl,hb1⟩;obtain⟨t0,t1,tf0,tf1,htl⟩:=(T0.out.below (ba _ _)).below hb1;go_wp2_with fail;go_ret;exact⟨rfl,bt (ba _ _) hb1⟩
 ·rw[zQ h0] at her
  subst her;clear hb heb hB;obtain⟨d,nm,p,u,v'⟩:=e;go_enter func60,ntmps60;go_wp2_with fail;refine(kw _).mono ?_;rintro e1 w1 ⟨rfl,hb1⟩;go_wp2_with fail;go_ret;exact⟨rfl,bt (ba _ _) hb1⟩
theorem czJ (N:Nat->Prop)(bk bm n:Nat)(v:Value)(D:DataW Value)(done:List En)(e:En)(w:World)(hB:BookM w N bk bm n v D done)(hs:e.2.1.size<=4294967296)(hN:∀ k,w.heap.size<=k->N k)(hbad:eZ e=0)(hl:done.length<4096)(hpI:-9223372036854775808<=e.2.2.1/\e.2.2.1<=9223372036854775807)(er:Int)(her:qZ done (nrm e)=er)(h0:er≠0) :
  Calls prog 60 #[.pointer (some ⟨bk,0,none⟩),ev e] w fun x w'=>x=.returned (.int .i64 er)/\Below w.heap.size w w':=by
 have kw:=fun W=>wH e (by omega) W 0 hbad;have ka:=fun W (hW:BookM W N bk bm n v D done) (hNW:∀ k,W.heap.size<=k->N k)=>ajJ N bk bm n v D done e W hW hs hNW hbad hl hpI er her;have HB:Hid (BookM w N bk bm n v D done):=hB;have hbk:=hB.two.lt;obtain⟨va,vc,rfl⟩:=hB.slice;have hq:decide ((4096:Int)<=(done.length:Int))=false:=dV (by omega);obtain⟨d,nm,p,u,v'⟩:=e;have V0:Hid (FivB (w.alloc (.cells #[.int .i64 d,.string nm,.int .i64 p,.int .i64 u,.int .i64 v'] 53)) w.heap.size (.int .i64 d) (.string nm) (.int .i64 p) (.int .i64 u) (.int .i64 v')):=FivB.new _ _ _ _ _ _ 53 _ rfl;clear hbad her hB;go_enter func60,ntmps60;go_wp2_with fail;refine(kw _).mono ?_;rintro e1 w1 ⟨rfl,hb1⟩;have B1:=bt (ba _ _) hb1;have BK1:=HB.out.keep B1;obtain⟨t0,t1,tf0,tf1,htl⟩:=BK1.two;obtain⟨c0,c1,c2,c3,c4,f0,f1,f2,f3,f4,hl0⟩:=V0.out.below hb1;go_wp2_with fail;refine(ka _ BK1 (fun k hk=>hN k (aQ B1.size hk))).mono ?_;rintro e2 w2 ⟨hb2,⟨_,rfl⟩|⟨hz,_⟩⟩
 ·have hq2:(er != 0)=true:=by simpa using h0
  go_wp2_with fail;go_ret;exact⟨rfl,bal (bt B1 hb2) _⟩
 ·exact absurd hz h0
theorem lV {w w':World}{b k:Nat}{v:Value}{N:Nat->Prop}(h:Cl w b k v)(hk:Keeps w w' N)(hn:¬ N b):Cl w' b k v :=
 have e:=hk.block b h.lt hn
 ⟨(dZ (w:=w) (a:=⟨b,k,none⟩) e).trans h.c,(uJ (w:=w) (a:=⟨b,k,none⟩) e).trans h.f,zX h.lt hk.size⟩
theorem eX {a b:World}{N:Nat->Prop}(h:Keeps a b N){p:Addr}(hp:N p.block\/a.heap.size<=p.block)(u:Value):Keeps a (b.setCell p u) N :=
 ⟨h.os,h.tape,h.output,by simp[World.setCell];exact h.size,fun k hk hn=>(lL _ _ _ _ (by rintro rfl;rcases hp with c|c;exact hn c;omega)).trans (h.block k hk hn)⟩
structure DskM (w:World) (bd bw:Nat) (a:Option Addr) (c:Nat) (disk:List Int) (left:Int):Prop where
 c0:Cl w bd 0 (.slice a disk.length c)
 c1:Cl w bd 1 (.int .i64 left)
 c2:Cl w bd 2 (.bool false)
 ad:disk≠[]->a=some ⟨bw,0,none⟩
 ar:∀ i x,disk[i]? = some x->Cl w bw i (.int .i64 x)
 cp:disk.length<=c
 ne:bd≠bw
theorem DskM.kp {w w':World}{bd bw:Nat}{a:Option Addr}{c:Nat}{disk:List Int}{left:Int}{N:Nat->Prop}(h:DskM w bd bw a c disk left)(hk:Keeps w w' N)(h1:¬ N bd)(h2:¬ N bw):DskM w' bd bw a c disk left :=
 ⟨lV h.c0 hk h1,lV h.c1 hk h1,lV h.c2 hk h1,h.ad,fun i x hi=>lV (h.ar i x hi) hk h2,h.cp,h.ne⟩
theorem DskM.at {w w':World}{bd bw:Nat}{a:Option Addr}{c:Nat}{disk:List Int}{left:Int}(h:DskM w bd bw a c disk left)(hb:Below w.heap.size w w'):DskM w' bd bw a c disk left :=
 h.kp (N:=fun _=>False) (nQ hb) (fun h=>h) (fun h=>h)
theorem DskM.left {w:World}{bd bw:Nat}{a:Option Addr}{c:Nat}{disk:List Int}{left:Int}(h:DskM w bd bw a c disk left)(l':Int):DskM (w.setCell ⟨bd,1,none⟩ (.int .i64 l')) bd bw a c disk l' :=
 ⟨h.c0.oth (.inr (by decide)) _,h.c1.set _,h.c2.oth (.inr (by decide)) _,h.ad,fun i x hi=>(h.ar i x hi).oth (.inl h.ne) _,h.cp,h.ne⟩
theorem DskM.put {w:World}{bd bw:Nat}{a:Option Addr}{c:Nat}{disk:List Int}{left:Int}(h:DskM w bd bw a c disk left){i:Nat}(hi:i<disk.length)(x:Int):DskM (w.setCell ⟨bw,i,none⟩ (.int .i64 x)) bd bw a c (disk.set i x) left:=by
 have h0:Cl (w.setCell ⟨bw,i,none⟩ (.int .i64 x)) bd 0 (.slice a (disk.set i x).length c):=by rw[cK];exact h.c0.oth (b':=bw) (k':=i) (.inl h.ne.symm) (.int .i64 x)
 refine⟨h0,h.c1.oth (.inl h.ne.symm) _,h.c2.oth (.inl h.ne.symm) _,fun hne=>h.ad (by rintro rfl;simp at hi),fun j y hj=>?_,by rw[cK];exact h.cp,h.ne⟩;by_cases c:i=j
 ·subst c
  rw[cU hi] at hj;cases hj;obtain⟨z,hz⟩:∃ z,disk[i]? = some z:=⟨_,fZ hi⟩;exact(h.ar i z hz).set _
 ·rw[oU c] at hj
  exact(h.ar j y hj).oth (.inr c) _
theorem c0Q (bd bw:Nat)(a:Option Addr)(c:Nat)(disk:List Int)(left:Int)(w:World)(h:DskM w bd bw a c disk left) :
  Calls prog 300 #[.pointer (some ⟨bd,0,none⟩)] w fun e w'=>e=.returned (.int .i64 disk.length)/\w' = w:=by
 have m0:=h.c0.c;go_enter func300,ntmps300;go_wp2;go_ret;exact⟨rfl,rfl⟩
theorem c0X (bd bw:Nat)(a:Option Addr)(c:Nat)(disk:List Int)(left:Int)(i:Nat)(x:Int)(w:World)(h:DskM w bd bw a c disk left)(hx:disk[i]? = some x) :
  Calls prog 298 #[.pointer (some ⟨bd,0,none⟩),.int .i64 i] w fun e w'=>e=.returned (.int .i64 x)/\w' = w:=by
 have m0:=h.c0.c;have hi:i<disk.length:=(gQ.1 hx).1;have hc:=h.cp;have ha:=h.ad (by rintro rfl;simp at hi);subst ha;have m1:=(h.ar i x hx).c;have q1:¬ ((i:Int)<0):=by omega
 have q2:¬ ((disk.length:Int)<=(i:Int)):=by omega
 clear h;go_enter func298,ntmps298;go_wp2;go_ret;exact⟨rfl,rfl⟩
def c0Z (bd bw:Nat) (a:Option Addr) (c:Nat) (d':List Int) (l':Int) (ok:Bool) (w:World):Ending->World->Prop:=fun e w' =>
 e=.returned (.bool ok)/\DskM w' bd bw a c d' l'/\Keeps w w' (fun k=>k=bd\/k=bw)/\w'.heap.size=w.heap.size
theorem c0J (bd bw:Nat)(a:Option Addr)(c:Nat)(disk:List Int)(left:Int)(i:Nat)(x:Int)(w:World)(h:DskM w bd bw a c disk left)(hi:i<disk.length)(hl:-9223372036854775808<=left/\left<=9223372036854775807)(d':List Int)(l':Int)(ok:Bool)(hp:dX disk left [(i,x)]=(d',l',ok)) :
  Calls prog 299 #[.pointer (some ⟨bd,0,none⟩),.int .i64 i,.int .i64 x] w (c0Z bd bw a c d' l' ok w):=by
 have H:Hid (DskM w bd bw a c disk left):=h;have m0:=h.c0.c;have hc:=h.cp;have ha:=h.ad (by rintro rfl;simp at hi);subst ha;obtain⟨y,hy⟩:∃ y,disk[i]? = some y:=⟨_,fZ hi⟩;have m1:=(h.ar i y hy).c;have n1:=(h.ar i y hy).f;have m2:=h.c1.c;have n2:=h.c1.f;have hne:=h.ne;have q1:¬ ((i:Int)<0):=by omega
 have q2:¬ ((disk.length:Int)<=(i:Int)):=by omega
 clear h hy;by_cases c0:left=0
 ·subst c0
  simp only[dX,oG,cQ] at hp;obtain⟨rfl,rfl,rfl⟩:=hp;go_enter func299,ntmps299;go_wp2;go_ret;exact⟨rfl,H.out,nQ (uQ _ _),rfl⟩
 ·simp only[dX,qQ c0,cQ] at hp
  obtain⟨rfl,rfl,rfl⟩:=hp;have q3:(left == 0)=false:=by simpa using c0
  by_cases c1:0<left
  ·rw[zQ c1]
   have q4:IntKind.i64.wrap (left - 1)=left - 1:=by rw[sY];omega
   go_enter func299,ntmps299;go_wp2;go_ret;exact⟨rfl,(H.out.left _).put hi _,eX (eX (nQ (uQ _ _)) (.inl (.inl rfl)) _) (.inl (.inr rfl)) _,by simp[World.setCell]⟩
  ·rw[qQ c1]
   go_enter func299,ntmps299;go_wp2;go_ret;exact⟨rfl,H.out.put hi _,eX (nQ (uQ _ _)) (.inl (.inr rfl)) _,by simp[World.setCell]⟩
end K.P
namespace K.P
open K.Ds
theorem akX (x:Int):(BitVec.ofInt 64 x).toNat=sA x:=by
 rw[BitVec.toNat_ofInt];rfl
theorem akZ {n:Nat}(h:n<18446744073709551616):IntKind.i64.wrap (n:Int)=zU n:=by
 rw[sY];unfold zU;split <;> omega
theorem c1Q (a b k n:Nat)(hn:n=2 ^ (k+8)*a)(hb:b<256)(hlt:n<18446744073709551616)(hk:k<=56) :
  bits .or .i64 (zU n) (IntKind.i64.wrap ((b:Int)*2 ^ k))=zU (n+b*2 ^ k):=by
 have h56:2 ^ k<=2 ^ 56:=Nat.pow_le_pow_right (by decide) hk
 have hm:b*2 ^ k<18446744073709551616:=by
  have:=Nat.mul_le_mul (show b<=255 by omega) h56;omega
 have e1:((b:Int)*2 ^ k)=((b*2 ^ k:Nat):Int):=by simp
 have hlow:b*2 ^ k<2 ^ (k+8):=by
  rw[Nat.pow_add,Nat.mul_comm];exact Nat.mul_lt_mul_of_pos_left hb (Nat.two_pow_pos k)
 have hor:n ||| (b*2 ^ k)=n+b*2 ^ k:=by
  rw[hn,Nat.two_pow_add_eq_or_of_lt hlow]
 have hs:n+b*2 ^ k<18446744073709551616:=by
  rw[<-hor];exact Nat.or_lt_two_pow (n:=64) hlt hm
 rw[e1,akZ hm];unfold bits;simp only
 show IntKind.i64.wrap (((BitVec.ofInt 64 (zU n)) ||| (BitVec.ofInt 64 (zU (b*2 ^ k)))).toNat:Int)=_
 rw[BitVec.toNat_or,akX,akX,jB hlt,jB hm,hor,akZ hs]
theorem eB (s:List Nat)(i j:Nat):(s.take i).getD j 0=if j<i then s.getD j 0 else 0:=by
 simp only[List.getD,iH];split <;> rfl
theorem akJ (s:List Nat)(q r:Nat):octs (s.take (8*q+r)) q=(List.range 8).map fun t=>if t<r then s.getD (8*q+t) 0 else 0:=by
 unfold octs;refine uR fun t _=>?_;rw[eB];by_cases c:t<r
 ·rw[zQ c,zQ (by omega)]
 ·rw[qQ c,qQ (by omega)]
theorem r8:List.range 8=[0,1,2,3,4,5,6,7]:=rfl
theorem c1X (f:Nat->Nat)(r:Nat)(hr:r<8):cJ ((List.range 8).map fun t=>if t<r then f t else 0)=2 ^ (8*(7 - r)+8)*cJ ((List.range r).map f) /\
  cJ ((List.range 8).map fun t=>if t<r+1 then f t else 0)=cJ ((List.range 8).map fun t=>if t<r then f t else 0)+f r*2 ^ (8*(7 - r)):=by
 rw[r8]
 match r,hr with
 | 0,_ | 1,_ | 2,_ | 3,_ | 4,_ | 5,_ | 6,_ | 7,_=>constructor <;> simp[cJ,List.range_succ] <;> omega
theorem c1Z (s:List Nat)(q r:Nat)(hr:r<8):(∃ a,cJ (octs (s.take (8*q+r)) q)=2 ^ (8*(7 - r)+8)*a)/\cJ (octs (s.take (8*q+r+1)) q)=cJ (octs (s.take (8*q+r)) q)+s.getD (8*q+r) 0*2 ^ (8*(7 - r)):=by
 have h:=c1X (fun t=>s.getD (8*q+t) 0) r hr;rw[show 8*q+r+1=8*q+(r+1) from rfl,akJ,akJ];exact⟨⟨_,h.1⟩,h.2⟩
theorem c1J (s:List Nat)(q i:Nat)(h:i / 8≠q):octs (s.take (i+1)) q=octs (s.take i) q:=by
 unfold octs;refine uR fun t ht=>?_;have ht8:t<8:=by simpa using ht
 rw[eB,eB];by_cases c:8*q+t<i
 ·rw[zQ c,zQ (by omega)]
 ·rw[qQ c,qQ (by omega)]
theorem fL (s:List Nat)(q:Nat)(hq:q<4):(wZ s)[q]? = some (zU (cJ (octs s q))):=by
 simp[wZ,hq]
theorem c2Q (s:List Nat)(hs:∀ b∈s,b<256)(q:Nat):cJ (octs s q)<18446744073709551616:=by
 have h8:(octs s q).length=8:=by simp[octs]
 have hb:=cP (eP hs q);rw[h8] at hb;simpa using hb
theorem c2X (s:List Nat)(hs:∀ b∈s,b<256)(i:Nat)(hi:i<32):wZ (s.take (i+1))=(wZ (s.take i)).set (i / 8) (bits .or .i64 ((wZ (s.take i)).getD (i / 8) 0) (IntKind.i64.wrap ((s.getD i 0:Nat)*2 ^ (8*(7 - i % 8))))):=by
 have e:i=8*(i / 8)+i % 8:=by omega
 obtain⟨⟨a,h1⟩,h2⟩:=c1Z s (i / 8) (i % 8) (by omega);rw[<-e] at h1 h2
 have hb:s.getD i 0<256:=by
  rw[List.getD];cases c:s[i]? with
  | none=>simp
  | some x=>simpa using hs x (vX c)
 have hq:i / 8<4:=by omega
 have hl:=c2Q (s.take i) (fun b hb=>hs b (rD hb)) (i / 8);have hg:(wZ (s.take i)).getD (i / 8) 0=zU (cJ (octs (s.take i) (i / 8))):=by rw[List.getD,fL _ _ hq];rfl
 rw[hg];have ho:=c1Q a (s.getD i 0) (8*(7 - i % 8)) _ h1 hb hl (by omega);rw[ho,<-h2];apply bI;intro j;by_cases c:j<4
 ·by_cases c2:i / 8=j
  ·subst c2
   rw[fL _ _ c,cU (by rw[yF];exact c)]
  ·rw[oU c2,fL _ _ c,fL _ _ c,c1J s j i c2]
 ·rw[cI (by rw[yF];omega),cI (by rw[cK,yF];omega)]
theorem c2Z:wZ []=[0,0,0,0]:=by decide
theorem c2J (x:Int)(r:Nat)(hr:r<8):IntKind.u8.wrap (x / 2 ^ (8*(7 - r)))=((vY 8 (sA x)).getD r 0:Nat):=by
 have hu:IntKind.u8.wrap (x / 2 ^ (8*(7 - r)))=(x / 2 ^ (8*(7 - r))) % 256:=by simp[IntKind.wrap,IntKind.bits,IntKind.signed]
 rw[hu];unfold sA;have e:vY 8 (x % 18446744073709551616).toNat=[(x % 18446744073709551616).toNat / 256 / 256 / 256 / 256 / 256 / 256 / 256 % 256,(x % 18446744073709551616).toNat / 256 / 256 / 256 / 256 / 256 / 256 % 256,(x % 18446744073709551616).toNat / 256 / 256 / 256 / 256 / 256 % 256,(x % 18446744073709551616).toNat / 256 / 256 / 256 / 256 % 256,(x % 18446744073709551616).toNat / 256 / 256 / 256 % 256,(x % 18446744073709551616).toNat / 256 / 256 % 256,(x % 18446744073709551616).toNat / 256 % 256,(x % 18446744073709551616).toNat % 256]:=rfl;rw[e]
 match r,hr with
 | 0,_ | 1,_ | 2,_ | 3,_ | 4,_ | 5,_ | 6,_ | 7,_=>simp;omega
end K.P
namespace K.P
open Go.RowKit K.Ds
theorem alQ (i k:Nat)(hi:i<32)(hk:k=8*(7 - i % 8))(w:World):Calls prog 189 #[.int .i64 i] w fun e w'=>e=.returned (.int .i64 (k:Int))/\w' = w:=by
 have e:8*(7 - (i:Int) % 8)=(k:Int):=by omega
 clear hk;have H:Hid (8*(7 - (i:Int) % 8)=(k:Int)):=e;clear e;go_enter func189,ntmps189;go_wp2;go_ret;exact⟨congrArg (fun z=>Ending.returned (Value.int .i64 z)) H.out,rfl⟩
def xX (w:World) (b:Nat) (l:List Int):Prop:=l.length=9/\∀ k x,l[k]? = some x->Cl w b k (.int .i64 x)
theorem xX.at {w w':World}{b:Nat}{l:List Int}(h:xX w b l)(hb:Below w.heap.size w w'):xX w' b l:=⟨h.1,fun k x hx=>(h.2 k x hx).at hb⟩
theorem xX.set {w:World}{b:Nat}{l:List Int}(h:xX w b l){i:Nat}(hi:i<9)(x:Int):xX (w.setCell ⟨b,i,none⟩ (.int .i64 x)) b (l.set i x):=by
 refine⟨by rw[cK];exact h.1,fun k y hy=>?_⟩;by_cases c:i=k
 ·subst c
  rw[cU (by rw[h.1];exact hi)] at hy;cases hy;obtain⟨z,hz⟩:∃ z,l[i]? = some z:=⟨_,fZ (by rw[h.1];exact hi)⟩;exact(h.2 i z hz).set _
 ·rw[oU c] at hy
  exact(h.2 k y hy).oth (.inr c) _
theorem xX.oth {w:World}{b b' k:Nat}{l:List Int}(h:xX w b l)(hne:b'≠b)(u:Value):xX (w.setCell ⟨b',k,none⟩ u) b l:=⟨h.1,fun j x hx=>(h.2 j x hx).oth (.inl hne) _⟩
theorem xX.nine {w:World}{b:Nat}{x0 x1 x2 x3 x4 x5 x6 x7 x8:Int}(h:xX w b [x0,x1,x2,x3,x4,x5,x6,x7,x8]):Cl w b 0 (.int .i64 x0)/\Cl w b 1 (.int .i64 x1)/\Cl w b 2 (.int .i64 x2)/\Cl w b 3 (.int .i64 x3)/\Cl w b 4 (.int .i64 x4)/\Cl w b 5 (.int .i64 x5)/\Cl w b 6 (.int .i64 x6)/\Cl w b 7 (.int .i64 x7)/\Cl w b 8 (.int .i64 x8) :=
 ⟨h.2 0 _ rfl,h.2 1 _ rfl,h.2 2 _ rfl,h.2 3 _ rfl,h.2 4 _ rfl,h.2 5 _ rfl,h.2 6 _ rfl,h.2 7 _ rfl,h.2 8 _ rfl⟩
theorem xX.new {w:World}{N:Nat}(x0 x1 x2 x3 x4 x5 x6 x7 x8:Int)(t:TypeId)(hN:N=w.heap.size):xX (w.alloc (.cells #[.int .i64 x0,.int .i64 x1,.int .i64 x2,.int .i64 x3,.int .i64 x4,.int .i64 x5,.int .i64 x6,.int .i64 x7,.int .i64 x8] t)) N [x0,x1,x2,x3,x4,x5,x6,x7,x8]:=by
 refine⟨rfl,fun k x hx=>?_⟩
 match k,hx with
 | 0,hx | 1,hx | 2,hx | 3,hx | 4,hx | 5,hx | 6,hx | 7,hx | 8,hx=>cases hx;exact Cl.new _ t _ _ hN rfl
theorem Cl.drew' {w:World}{b k:Nat}{v:Value}(h:Cl w b k v):Cl w.drew b k v:=⟨h.c,h.f,h.lt⟩
theorem xX.drew {w:World}{b:Nat}{l:List Int}(h:xX w b l):xX w.drew b l:=⟨h.1,fun k x hx=>Cl.drew' (h.2 k x hx)⟩
theorem pM {l:List Int}(h:l.length=9):∃ x0 x1 x2 x3 x4 x5 x6 x7 x8,l=[x0,x1,x2,x3,x4,x5,x6,x7,x8]:=by
 match l,h with
 | [x0,x1,x2,x3,x4,x5,x6,x7,x8],_=>exact⟨_,_,_,_,_,_,_,_,_,rfl⟩
def rvl (l:List Int):Value:=.agg (l.map (Value.int .i64)).toArray
abbrev zr:Value:=.int .i64 0
def NB (w:World) (b:Nat) (l:List Int):Prop:=∀ k x,l[k]? = some x->Cl w b k (.int .i64 x)
theorem NB.set {w:World}{b:Nat}{l:List Int}(h:NB w b l){i:Nat}(hi:i<l.length)(x:Int):NB (w.setCell ⟨b,i,none⟩ (.int .i64 x)) b (l.set i x):=by
 intro k y hy;by_cases c:i=k
 ·subst c
  rw[cU hi] at hy;cases hy;obtain⟨z,hz⟩:∃ z,l[i]? = some z:=⟨_,fZ hi⟩;exact(h i z hz).set _
 ·rw[oU c] at hy
  exact(h k y hy).oth (.inr c) _
theorem NB.drew {w:World}{b:Nat}{l:List Int}(h:NB w b l):NB w.drew b l:=fun k x hx=>Cl.drew' (h k x hx)
theorem pP:(prog.info? 2).map (fun i=>(i.zero,i.size,i.bytes))=some (some (.int .i64 0),1,8):=by kernel_rfl
theorem c3Q (n:Nat):madeCells #[.int .i64 0] n=((List.replicate n (0:Int)).map (Value.int .i64)).toArray:=by
 apply Array.ext';rw[toList_madeCells_one];simp
theorem c3X (nm:ByteArray)(hs:nm.size<=32)(n:Nat)(hn:n=(nm.size+7) / 8)(w:World) :
  Calls prog 153 #[.string nm] w fun e w'=>e=.returned (.slice (some ⟨w.heap.size,0,none⟩) n n)/\Below w.heap.size w w'/\NB w' w.heap.size ((wZ (fY nm)).take n):=by
 obtain⟨s,hsd⟩:∃ s,fY nm=s:=⟨_,rfl⟩;have hsl:s.length=nm.size:=by rw[<-hsd];simp[fY]
 have HB:Hid (∀ b∈s,b<256):=by rw[<-hsd];exact fP nm
 have HG:Hid (∀ i (h:i<nm.size),(nm.get i h).toNat=s.getD i 0):=by
  intro i h;have h2:i<nm.data.toList.length:=by simpa using h
  rw[<-hsd,List.getD,fY,vG,fZ h2];rfl
 rw[hsd];clear hsd;have hmk:∀ u:World,(Instr.makeSlice 43 (.int .i64 (n:Int)) (.int .i64 (n:Int))).run prog u=.ok (.slice (some ⟨u.heap.size,0,none⟩) n n) (u.alloc (.cells (madeCells #[.int .i64 0] n) 2)):=run_make_row' (P:=prog) 43 2 (.int .i64 0) 8 underlying43 pP rfl .i64 .i64 n (by omega) (by omega);have hdv:((nm.size:Int)+8 - 1) / 8=(n:Int):=by omega
 have hdw:((nm.size:Int)+7) / 8=(n:Int):=by omega
 have hn4:n<=4:=by omega
 have HNE:Hid (n=(nm.size+7) / 8):=hn;clear hn;go_enter func153,ntmps153;go_wp2;clear hdv hdw hmk
 go_loopw [13] (fun t wr=>∃ (i:Nat),t=.int .i64 (i:Int)/\i<=nm.size/\Hid (NB wr w.heap.size ((wZ (s.take i)).take n))/\Hid (Below w.heap.size w wr)) (fun t _=>nm.size - (intOf t).toNat)
 case atStart =>
  refine⟨0,rfl,mQ _,?_,ba _ _⟩;intro k x hx;rw[List.take_zero,c2Z] at hx;have hk:k<n:=by have:=(gQ.1 hx).1;rw[dU] at this;omega
  obtain rfl:x=0:=by
   rw[gH hk] at hx
   match k,hx with
   | 0,hx | 1,hx | 2,hx | 3,hx=>cases hx;rfl
  refine Cl.new _ 2 k _ rfl ?_;rw[c3Q];simp[hk]
 case round =>
  obtain⟨i,rfl,hi,HN,HW⟩:=hrel;by_cases h1:i<nm.size
  ·obtain⟨q,hq⟩:∃ q,i / 8=q:=⟨_,rfl⟩
   obtain⟨k,hk⟩:∃ k,k=8*(7 - i % 8):=⟨_,rfl⟩;have kf:=fun W=>alQ i k (by omega) hk W;have hq4:q<4:=by omega
   have hqn:q<n:=by have:=HNE.out;omega
   have hqi:(i:Int) / 8=(q:Int):=by omega
   have hw1:IntKind.i64.wrap (q:Int)=(q:Int):=by rw[sY];omega
   obtain⟨x,hx⟩:∃ x,(wZ (s.take i))[q]? = some x:=⟨_,fL _ _ hq4⟩;obtain⟨b,hb⟩:∃ b,(nm[i]'h1).toNat=b:=⟨_,rfl⟩;have HBB:Hid (s.getD i 0=b):=(HG.out i h1).symm.trans hb;have hb2:b<256:=by rw[<-hb];exact UInt8.toNat_lt _
   have hw3:IntKind.i64.wrap (b:Int)=(b:Int):=by rw[sY];omega
   have hk56:k<=56:=by omega
   have hc:Cl wr w.heap.size q (.int .i64 x):=HN.out q x (by rw[gH hqn];exact hx);have m1:=hc.c;have m2:=hc.f;obtain⟨y,hy⟩:∃ y,bits .or .i64 x (IntKind.i64.wrap ((b:Int)*2 ^ k))=y:=⟨_,rfl⟩
   have hst:(wZ (s.take (i+1))).take n=((wZ (s.take i)).take n).set q y:=by
    have h3:=c2X s HB.out i (by omega);rw[HBB.out,hq,<-hk,show(wZ (s.take i)).getD q 0=x by rw[List.getD,hx];rfl] at h3;rw[h3,hy,List.take_set]
   have hln:q<((wZ (s.take i)).take n).length:=by rw[dU,yF];omega
   have FN:Hid (NB (wr.setCell ⟨w.heap.size,q,none⟩ (.int .i64 y)).drew w.heap.size ((wZ (s.take (i+1))).take n)):=by
    rw[hst];exact(HN.out.set hln _).drew
   have FW:Hid (Below w.heap.size w (wr.setCell ⟨w.heap.size,q,none⟩ (.int .i64 y)).drew):=(bs HW.out (by simp) _).drew;clear hx hq hk hst hc hln;go_wp2_with fail
   go_region_law (go_simp;go_at_call 189;refine(kf _).mono ?_;rintro e w' ⟨rfl,rfl⟩;go_wp2_with fail)
   all_goals
    go_wp2
    go_roundw
    ·exact⟨i+1,by go_num,h1,FN,FW⟩
    ·simp[intOf];omega
  ·obtain rfl:i=nm.size:=by omega
   have HN2:Hid (NB wr w.heap.size ((wZ s).take n)):=by
    have h:=HN.out;rwa [eV (l:=s) (by omega)] at h
   go_wp2;go_ret;exact⟨rfl,HW.out,HN2.out⟩
theorem c3Z (s:List Nat)(q:Nat)(hq:q<4)(h:s.length<=8*q):(wZ s)[q]? = some 0:=by
 rw[fL _ _ hq]
 have e:octs s q=List.replicate 8 0:=by
  apply bI;intro i;unfold octs;rw[vG];by_cases c:i<8
  ·rw[List.getElem?_range c,bN,zQ c]
   simp[List.getD,cI (show s.length<=8*q+i by omega)]
  ·rw[cI (by simp;omega),cI (by simp;omega)]
   rfl
 rw[e];decide
theorem c3J (nm:ByteArray)(n:Nat)(hn:n=(nm.size+7) / 8)(h4:n<=4):wZ (fY nm)=(wZ (fY nm)).take n++List.replicate (4 - n) 0:=by
 apply bI;intro q;by_cases c:q<n
 ·rw[uN (by rw[dU,yF];omega),gH c]
 ·rw[fH (by rw[dU,yF];omega),dU,yF,bN]
  by_cases d:q<4
  ·rw[zQ (by omega)]
   exact c3Z _ _ d (by simp[fY];omega)
  ·rw[qQ (by omega)]
   exact cI (by rw[yF];omega)
theorem alX (e:En)(hs:e.2.1.size<=32)(w:World) :
  Calls prog 97 #[ev e] w fun x w'=>x=.returned (rvl (yZ e))/\Below w.heap.size w w':=by
 obtain⟨d,nm,p,u,v⟩:=e;simp only at hs;obtain⟨n,hn⟩:∃ n,n=(nm.size+7) / 8:=⟨_,rfl⟩;have hn4:n<=4:=by omega
 have kw:=fun W=>c3X nm hs n hn W;obtain⟨cs,hcs⟩:∃ cs,(wZ (fY nm)).take n=cs:=⟨_,rfl⟩;have hcl:cs.length=n:=by rw[<-hcs,dU,yF];omega
 have HCL:Hid (cs.length=n):=hcl
 have HRW:Hid (yZ (d,nm,p,u,v)=[1,d,p,u,v]++(cs++List.replicate (4 - n) 0)):=by
  rw[<-hcs,<-c3J nm n hn hn4];rfl
 have HSP:Hid (splice [.int .i64 1,.int .i64 d,.int .i64 p,.int .i64 u,.int .i64 v,zr,zr,zr,zr] 5 (cs.map (Value.int .i64))=(yZ (d,nm,p,u,v)).map (Value.int .i64)):=by
  rw[Hid,HRW.out,splice,bU,HCL.out]
  match n,hn4 with
  | 0,_ | 1,_ | 2,_ | 3,_ | 4,_=>simp[List.replicate]
 simp only[hcs] at kw;clear hn hcs hcl;go_enter func97,ntmps97;go_wp2_with fail;obtain⟨X,hX⟩:∃ X,((w.alloc (.cells #[.int .i64 d,.string nm,.int .i64 p,.int .i64 u,.int .i64 v] 53)).alloc (.cells #[zr,zr,zr,zr,zr,zr,zr,zr,zr] 187)).alloc (.cells #[.int .i64 1,.int .i64 d,.int .i64 p,.int .i64 u,.int .i64 v,zr,zr,zr,zr] 187)=X:=⟨_,rfl⟩;have HXB:Hid (Below w.heap.size w X):=hX▸bal (bal (ba _ _) _) _;have HXC:Hid (Cl X w.heap.size 1 (.string nm)):=hX▸((Cl.new _ 53 1 _ rfl rfl).at (ba _ _)).at (ba _ _);have HXZ:Hid (xX X (w.heap.size+1) [0,0,0,0,0,0,0,0,0]):=hX▸(xX.new _ _ _ _ _ _ _ _ _ 187 (by simp)).at (ba _ _)
 have HXG:Hid (X.heap[w.heap.size+1+1]? = some (.cells ([.int .i64 1,.int .i64 d,.int .i64 p,.int .i64 u,.int .i64 v,zr,zr,zr,zr]:List Value).toArray 187 (0,0))):=by
  have h:=zR ((w.alloc (.cells #[.int .i64 d,.string nm,.int .i64 p,.int .i64 u,.int .i64 v] 53)).alloc (.cells #[zr,zr,zr,zr,zr,zr,zr,zr,zr] 187)) (.cells #[.int .i64 1,.int .i64 d,.int .i64 p,.int .i64 u,.int .i64 v,zr,zr,zr,zr] 187);rw[hX] at h;rw[Hid];simpa using h
 have HXS:Hid (X.heap.size=w.heap.size+1+1+1):=by rw[Hid,<-hX];simp
 have m1:=HXC.out.c;rw[hX];clear hX;have hn9:(n:Int)<=9:=by omega
 have hsz2:(prog.info? 2).map (·.size)=some 1:=by kernel_rfl
 go_region_law (first
  | (refine step_copy_splice rfl (.tmp 15) (.tmp 18) 43 43 rfl 2 underlying43 hsz2 (some ⟨w.heap.size+1+1,5,none⟩) (some ⟨X.heap.size,0,none⟩) 4 4 n n rfl rfl (w.heap.size+1+1) 5 _ 187 HG5.out (cs.map (Value.int .i64)) (by rw[bU,HCL.out];exact(Nat.min_eq_left hn4).symm) (fun _=>⟨rfl,_,rfl,HS5.out⟩) (by rw[bU,HCL.out];simp;omega) (by intro z hz;obtain⟨_,_,rfl⟩:=yJ.1 hz;rfl) (w.heap.size+1+1) X HB5.out (jQ _) ?_;intro w6 hg6 hb6;go_wp2_with fail)
  | (go_simp;go_at_call 153;refine(kw _).mono ?_;rintro e w5 ⟨rfl,hb5,hN5⟩;have HB5:Hid (Below (w.heap.size+1+1) X w5):=((uQ _ X).drew.trans (hb5.mono (by have:=HXS.out;simp;omega)));have HG5:Hid (w5.heap[w.heap.size+1+1]? = some (.cells ([.int .i64 1,.int .i64 d,.int .i64 p,.int .i64 u,.int .i64 v,zr,zr,zr,zr]:List Value).toArray 187 (0,0))):=(hb5.block _ (by have:=HXS.out;simp;omega)).trans HXG.out;have HS5:Hid (∀ j v,(cs.map (Value.int .i64))[j]? = some v->w5.cell? ((⟨X.heap.size,0,none⟩:Addr).add j)=some v):=(fun j v hj=>by
    rw[vG,dR] at hj;obtain⟨x,hx,rfl⟩:=hj;rw[aA,oX];exact(hN5 j x hx).c);go_wp2_with fail))
 have hl9:(yZ (d,nm,p,u,v)).length=9:=by rw[HRW.out];simp[HCL.out];omega
 obtain⟨x0,x1,x2,x3,x4,x5,x6,x7,x8,hx⟩:=pM hl9;have HR:Hid (yZ (d,nm,p,u,v)=[x0,x1,x2,x3,x4,x5,x6,x7,x8]):=hx
 have HG6:Hid (w6.heap[w.heap.size+1+1]? = some (.cells ([.int .i64 x0,.int .i64 x1,.int .i64 x2,.int .i64 x3,.int .i64 x4,.int .i64 x5,.int .i64 x6,.int .i64 x7,.int .i64 x8]:List Value).toArray 187 (0,0))):=by
  have h:=hg6.out;rw[HSP.out,hx] at h;exact h
 have ac:∀ (k:Nat) (x:Value),([.int .i64 x0,.int .i64 x1,.int .i64 x2,.int .i64 x3,.int .i64 x4,.int .i64 x5,.int .i64 x6,.int .i64 x7,.int .i64 x8]:List Value)[k]? = some x->w6.cell? ⟨w.heap.size+1+1,k,none⟩=some x:=by
  intro k x hk;rw[cell_of_row w6 _ k _ 187 (0,0) HG6.out];simpa using hk
 have a0:=ac 0 _ rfl;have a1:=ac 1 _ rfl;have a2:=ac 2 _ rfl;have a3:=ac 3 _ rfl;have a4:=ac 4 _ rfl;have a5:=ac 5 _ rfl;have a6:=ac 6 _ rfl;have a7:=ac 7 _ rfl;have a8:=ac 8 _ rfl;have HZ:Hid (xX w6 (w.heap.size+1) [0,0,0,0,0,0,0,0,0]):=⟨rfl,fun k x hk=>⟨(hb6.cell (p:=⟨w.heap.size+1,k,none⟩) (Nat.lt_succ_self _)).trans (HXZ.out.2 k x hk).c,(hb6.frozen (p:=⟨w.heap.size+1,k,none⟩) (Nat.lt_succ_self _)).trans (HXZ.out.2 k x hk).f,zX (HXZ.out.2 k x hk).lt hb6.size⟩⟩;have HW:Hid (Below w.heap.size w w6):=HXB.out.trans (hb6.mono (by omega));obtain⟨z0,z1,z2,z3,z4,z5,z6,z7,z8⟩:=xX.nine HZ.out;obtain⟨c0,f0,l0⟩:=z0;obtain⟨c1,f1,_⟩:=z1;obtain⟨c2,f2,_⟩:=z2;obtain⟨c3,f3,_⟩:=z3;obtain⟨c4,f4,_⟩:=z4;obtain⟨c5,f5,_⟩:=z5;obtain⟨c6,f6,_⟩:=z6;obtain⟨c7,f7,_⟩:=z7;obtain⟨c8,f8,_⟩:=z8;have HZ9:=(((((((((HZ.out.set (i:=0) (by decide) x0).set (i:=1) (by decide) x1).set (i:=2) (by decide) x2).set (i:=3) (by decide) x3).set (i:=4) (by decide) x4).set (i:=5) (by decide) x5).set (i:=6) (by decide) x6).set (i:=7) (by decide) x7).set (i:=8) (by decide) x8);have FZ:Hid (xX _ (w.heap.size+1) [x0,x1,x2,x3,x4,x5,x6,x7,x8]):=HZ9;clear HZ9 hg6 HG6 ac hx hl9 hb5 hN5 HB5 HG5 HS5 m1 kw;go_wp2;obtain⟨r0,r1,r2,r3,r4,r5,r6,r7,r8⟩:=FZ.out.nine;replace r0:=r0.c;replace r1:=r1.c;replace r2:=r2.c;replace r3:=r3.c;replace r4:=r4.c;replace r5:=r5.c;replace r6:=r6.c;replace r7:=r7.c;replace r8:=r8.c;refine yQ (v:=rvl (yZ (d,nm,p,u,v))) ?_ rfl ⟨rfl,?_⟩
 ·rw[HR.out]
  simp[results,results97,go_sem,r0,r1,r2,r3,r4,r5,r6,r7,r8,rvl]
 ·exact bs (bs (bs (bs (bs (bs (bs (bs (bs HW.out (by simp) _) (by simp) _) (by simp) _) (by simp) _) (by simp) _) (by simp) _) (by simp) _) (by simp) _) (by simp) _
