import Derived.Test.YtdceajgpolckiaaGreatDoorQq42
open Go.Proofs.Tryz
set_option linter.unusedSimpArgs false
set_option maxHeartbeats 16000000
set_option maxRecDepth 100000
namespace Go.Proofs.YtdceajgpolckiaaGreatDoor
section
open Go.RowKit Ds
open K (Cl)
open K.P (HSt Keeps oQ eX rJ kX HouK DskM xG xZ dQ Ev Sn dA zZ TwoB sJ kV dD yZ qG gZ eF enc Rl aV aZ mB nrm)
theorem d9Z {α:Type}{s s':HSt}{p:Int}{e:K.P.En}{tl:Option α}{y:Sn α}(h:dQ 0 s (.ask p e tl)=(s',y))(hu:s.up=true)(h0:y.err=0):∃ t,tl=some t/\y.told=some t:=by
 simp only[dQ,hu] at h;rw[qQ (by simp)] at h
 repeat' split at h
 all_goals
  simp only[cQ] at h;obtain⟨_,rfl⟩:=h
  first
   | exact⟨_,rfl,rfl⟩
   | (simp only at h0;contradiction)
theorem d9J (pn:ByteArray)(z er lu ld:Int):nrm (zZ pn z er lu ld)=zZ pn z er lu ld:=by
 unfold zZ;split
 ·simp[nrm]
 ·simp[nrm]
theorem eaQ (pn:ByteArray)(z er lu ld:Int):(zZ pn z er lu ld).2.1=pn:=by
 unfold zZ;split <;> rfl
theorem eaX {disk:List Int}{n:Nat}{done:List K.P.En}(h:K.P.Rds disk n done):∀ e∈done,e.2.1.size<=9223372036854775807:=by
 induction h with
 | nil=>intro e he;cases he
 | more _ hc ih =>
  intro e he;simp only[zY,uI] at he;rcases he with he|rfl
  ·exact ih e he
  ·have h1:=(K.P.xH (K.P.pN hc.2.2.2).1).2.2.1
   unfold K.Ds.eZ at h1;simp only[wM,oV] at h1;have h2:=h1.1.2;simp at h2;omega
theorem eaZ:(prog.info? 53).map (fun i=>i.size)=some 5:=by kernel_rfl
theorem eaJ (nm:ByteArray)(u d:Int):prog.built 53 [(0,.int .i64 1),(1,.string nm),(3,.agg #[.int .i64 u,.int .i64 d])]=some #[.int .i64 1,.string nm,.int .i64 0,.int .i64 u,.int .i64 d]:=by kernel_rfl
theorem pC (a p u d:Int)(nm:ByteArray):prog.builtSlice 53 1 [(0,.agg #[.int .i64 a,.string nm,.int .i64 p,.int .i64 u,.int .i64 d])]=some #[.int .i64 a,.string nm,.int .i64 p,.int .i64 u,.int .i64 d]:=by kernel_rfl
theorem ebQ (B:Nat)(cv rv sv:Value)(l:List K.Ds.jQ)(rs:List K.Rw)(room:Int)(ss:List Stv)(w:World)(hB:B<=w.heap.size)(hp:K.eQ w B cv l)(hq:K.iQ w B rv rs)(hs:rG w B sv ss)(hl:ss.length<=100000000) :
  Calls prog 3 #[.agg #[cv,rv],.int .i64 room,sv] w fun e w'=>e=.returned (.bool true)/\Below w.heap.size w w':=by
 have HP:Hid (K.eQ w B cv l):=hp;have HQ:Hid (K.iQ w B rv rs):=hq;have HS:Hid (rG w B sv ss):=hs;obtain⟨i4,hi4,hz40,hz41,hz42⟩:=oY azQ;obtain⟨ca,cc,rfl,_⟩:=hp.slice;obtain⟨ra,rc,rfl,_⟩:=hq.slice;obtain⟨sa,sc,rfl,hsc,_,_⟩:=hs;obtain⟨W0,hW0⟩:∃ W0,w.alloc (.cells #[.slice ca l.length cc,.slice ra rs.length rc] 25)=W0:=⟨_,rfl⟩;have HT0:Hid (TwoB W0 w.heap.size (.slice ca l.length cc) (.slice ra rs.length rc)):=hW0▸TwoB.new _ _ _ 25 _ rfl;have HBW:Hid (Below w.heap.size w W0):=hW0▸ba _ _;have k12:=d9X W0;clear hp hq;go_enter func3,ntmps3;go_wp2_with fail;clear hW0;refine k12.mono ?_;rintro x1 w1 ⟨rfl,hb1⟩;have HB1:Hid (Below W0.heap.size W0 w1):=hb1;have HBw1:Hid (Below w.heap.size w w1):=bt HBW.out hb1;obtain⟨t0,t1,_,_,_⟩:=HT0.out.below hb1;obtain⟨er,her⟩:∃ er,K.Ds.fZ l (K.rr rs)=er:=⟨_,rfl⟩;have HER:Hid (K.Ds.fZ l (K.rr rs)=er):=her;have hbB:Below B w w1:=HBw1.out.mono hB;have k13:=K.b8J B _ _ l rs w1 (uQ hB HBw1.out.size) (HP.out.keep hbB) (HQ.out.keep hbB) er her;clear her hbB k12 hb1;go_wp2_with fail;refine k13.mono ?_;rintro x2 w2 ⟨rfl,hb2⟩;have HB2:Hid (Below w1.heap.size w1 w2):=hb2;have HBw2:Hid (Below w.heap.size w w2):=bt HBw1.out hb2;clear k13;by_cases h0:er=0
 ·subst h0
  by_cases hr0:room<0
  ·as_aux_lemma =>
   have g0:decide (room<0)=true:=by simpa using hr0
   go_wp2;go_ret;exact⟨rfl,HBw2.out⟩
  ·have g0:decide (room<0)=false:=by simpa using hr0
   by_cases hr1:5000<room
   ·as_aux_lemma =>
    have g1:decide (5000<room)=true:=by simpa using hr1
    go_wp2;go_ret;exact⟨rfl,HBw2.out⟩
   ·obtain⟨rn,hrn⟩:∃ rn:Nat,room=rn:=⟨room.toNat,by omega⟩
    subst hrn;have hrn:rn<=5000:=by omega
    have g1:¬ (5000:Int)<(rn:Int):=hr1;have hbB:Below B w w2:=HBw2.out.mono hB;have k14:=d1J B _ ss w2 (uQ hB HBw2.out.size) (HS.out.keep hbB) (by omega);obtain⟨t2,t3,_,_,_⟩:=(HT0.out.below HB1.out).below hb2;have HT2:Hid (TwoB w2 w.heap.size (.slice ca l.length cc) (.slice ra rs.length rc)):=(HT0.out.below HB1.out).below hb2;clear t0 t1 hb2 hbB hr0 hr1;go_upto_region 6 with fail;go_wp2_with fail;refine k14.mono ?_;rintro x3 w3 ⟨uv,rfl,ho3,hb3⟩;obtain⟨ua,uc,rfl⟩:=K.P.aY ho3;have HB3:Hid (Below w2.heap.size w2 w3):=hb3;have HBw3:Hid (Below w.heap.size w w3):=bt HBw2.out hb3;have HT3:Hid (TwoB w3 w.heap.size (.slice ca l.length cc) (.slice ra rs.length rc)):=HT2.out.below hb3
    have HU3:Hid (rG w3 w3.heap.size (.slice ua ss.length uc) (ss.map jX)):=fC (ss:=ss.map jX) (by rw[nY];exact ho3) (fun s hs=>by
     obtain⟨t,ht,rfl⟩:=tZ.1 hs;obtain⟨_,_,_,_,hm,_⟩:=HS.out.keep (HBw3.out.mono hB);exact(d5J (hm t ht)).mono (uQ hB HBw3.out.size))
    clear k14 hb3 ho3 t2 t3;go_wp2
    go_loopw [36,7] (fun iv ov wr=>∃ (i:Nat),iv=.int .i64 (i:Int)/\i<=ss.length/\Hid (Below w3.heap.size w3 wr)/\Hid (wr.ownsRow w3.heap.size 41 18 ov (2*i) (sfl (xJ ((ss.map jX).take i))))) (fun iv _ _=>ss.length - (intOf iv).toNat)
    case atStart=>exact⟨0,rfl,nQ _,aQ _ _,⟨rfl,.inl ⟨rfl,rfl⟩⟩⟩
    case round =>
     obtain⟨i,rfl,hi,HBW,HOW⟩:=hrel;by_cases h1:i<ss.length
     ·as_aux_lemma =>
      obtain⟨s,hx⟩:∃ s,(ss.map jX)[i]? = some s:=⟨_,dZ (by simpa using h1)⟩;obtain⟨sa',sc',hsv,_,_,hst⟩:=HU3.out.keep HBW.out;rw[nY] at hsv;cases hsv;obtain⟨b,o,rfl,hbB,hst⟩:=hst (fun e=>by rw[e] at hx;simp at hx);have HR:Hid (wr.rangeAt b (o+i*18) s.cs):=hst i s hx
      have HNX:Hid (sfl (xJ ((ss.map jX).take (i+1)))=sfl (xJ ((ss.map jX).take i))++sfl [s,uU]):=by
       show _=_
       rw[kZ,hx,Option.toList_some,d5Z];simp[sfl]
      have hii:(i:Int)<(ss.length:Int):=by omega
      obtain⟨w4,hw4⟩:∃ w4,wr.alloc (.cells s.cs.toArray 41)=w4:=⟨_,rfl⟩;have HW4:Hid (Below wr.heap.size wr w4):=hw4▸ba _ _;have HBS:Hid (Bx w4 wr.heap.size s.cs):=hw4▸Bx.new wr s.cs 41 rfl;have HO4:Hid (w4.ownsRow w3.heap.size 41 18 u7 (2*i) (sfl (xJ ((ss.map jX).take i)))):=hw4▸HOW.out.alloc _;have HS4:Hid (w4.heap.size=wr.heap.size+1):=by rw[Hid,<-hw4];simp
      have hws:Hid (w3.heap.size<=wr.heap.size):=HBW.out.size;clear hst hx;go_upto_region 8 with fail;refine jV ?_;go_step;go_step;go_step;refine yI rfl 41 _ rfl b (o+i*18) rfl s.cs _ HR.out underlying41 rfl eA ?_;go_step;go_step;go_step;refine wpList_store_rowTo rfl 41 _ _ rfl rfl wr.heap.size s.cs.toArray rfl rfl 41 _ (zE _ _) eA rfl (all_oneCell_toArray s.one) ?_;rw[World.setRow_alloc_new];rw[hw4];clear hw4;go_upto_region 9 with fail;have HO5:Hid ((w4.alloc (.cells (sfl [s,uU]).toArray 41)).ownsRow w3.heap.size 41 18 u7 (2*i) (sfl (xJ ((ss.map jX).take i)))):=HO4.out.alloc _
      have HQ2:Hid (∀ j u,(sfl [s,uU])[j]? = some u->(w4.alloc (.cells (sfl [s,uU]).toArray 41)).cell? ((⟨w4.heap.size,0,none⟩:Addr).add j)=some u):=by
       intro j u hj;have e:(⟨w4.heap.size,0,none⟩:Addr).add j=⟨w4.heap.size,j,none⟩:=by unfold Addr.add;split <;> simp_all
       rw[e];exact(Bx.new w4 (sfl [s,uU]) 41 rfl j u hj).c
      have HQ3:Hid (∀ u∈sfl [s,uU],u.oneCell' = true):=by
       intro u hu;obtain⟨t,_,hu⟩:=pM.1 hu;exact t.one u hu
      have HQ4:Hid (2*i+2<=maxLen):=by show _<=_;unfold maxLen;omega
      have HQ5:Hid ((2*i+2)*216<=140737488355328):=by show _<=_;omega
      have HQ6:Hid (w3.heap.size<=(w4.alloc (.cells (sfl [s,uU]).toArray 41)).heap.size):=by have:=HS4.out;have:=hws.out;show _<=_;simp;omega
      have HQ7:Hid ((w4.alloc (.cells (sfl [s,uU]).toArray 41)).heap.size=w4.heap.size+1):=by show _=_;simp
      refine jV ?_;go_step;go_step;go_step;refine yI rfl 41 _ rfl wr.heap.size 0 rfl s.cs _ (gC HBS.out) underlying41 rfl eA ?_;refine nC rfl 41 0 _ rfl _ rfl _ rfl _ bl5 ?_;refine d8Z rfl 26 41 _ _ rfl w4.heap.size rfl _ rfl underlying26 _ _ rfl rfl _ (d8X s uU) ?_;refine pY _ rfl _ _ 26 rfl w3.heap.size 41 i4 eR 18 216 underlying26 hi4 hz40 hz41 hz42 rfl (by decide) _ _ _ rfl HO5.out ⟨w4.heap.size,0,none⟩ 2 2 (sfl [s,uU]) rfl (by rw[d0J];rfl) HQ2.out HQ3.out (by decide) HQ4.out HQ5.out HQ6.out (w4.heap.size+1) HQ7.out ?_;intro g cap w5 hown hgrow hat hglt
      have hb5:Below w3.heap.size w3 w5:=by
       have h3:Below w3.heap.size w3 w4:=bt HBW.out HW4.out;refine⟨hgrow.os.trans h3.os,hgrow.tape.trans h3.tape,hgrow.output.trans h3.output,uQ h3.size (uQ (by simp) hgrow.size),fun k hk=>?_⟩;refine(hgrow.block k (by have:=h3.size;simp;omega) (fun e=>?_)).trans ((eV _ _ _ (by have:=h3.size;omega)).trans (h3.block k hk));have:=(yZ HOW.out e.symm).1;omega
      have HB5:Hid (Below w3.heap.size w3 w5):=hb5;have HO6:Hid (w5.ownsRow w3.heap.size 41 18 (.slice (some ⟨g,0,none⟩) (2*i+2) cap) (2*(i+1)) (sfl (xJ ((ss.map jX).take (i+1))))):=by rw[Hid,HNX.out,show 2*(i+1)=2*i+2 by omega];exact hown
      clear hown hgrow hat hb5 HBS HO5 HQ2;go_wp2
      go_roundw
      case rel=>exact⟨i+1,by go_num,h1,HB5,HO6⟩
      case measure=>simp[intOf];omega
     ·have hii:i=ss.length:=by omega
      subst hii;rw[show(ss.map jX).take ss.length=ss.map jX from fV (by simp)] at HOW;obtain⟨wq,hwq⟩:∃ wq:World,wq=wr:=⟨_,rfl⟩;subst hwq;obtain⟨aa,ac,rfl⟩:=K.P.aY HOW.out;obtain⟨us,hus⟩:∃ us,ss.map jX=us:=⟨_,rfl⟩;have hul:us.length=ss.length:=by rw[<-hus,nY]
      have hact:∀ s∈us,s.x.act≠6:=fun s hs=>by
       rw[<-hus] at hs;obtain⟨t,_,rfl⟩:=tZ.1 hs;exact d6Q t
      rw[hus] at HOW HU3;have HUL:Hid (us.length=ss.length):=hul;have HACT:Hid (∀ s∈us,s.x.act≠6):=hact
      have HUM:Hid (∀ s∈us,mY wq wq.heap.size s):=fun s hs=>by
       obtain⟨_,_,_,_,hm,_⟩:=HU3.out.keep HBW.out;exact(hm s hs).mono HBW.out.size
      have HAS:Hid (rG wq wq.heap.size (.slice aa (2*ss.length) ac) (xJ us)):=by
       have:=fC (w:=wq) (v:=.slice aa (2*ss.length) ac) (ss:=xJ us) (by rw[kM,hul];exact HOW.out) (a1J HUM.out);exact this
      have HBwr:Hid (Below w.heap.size w wq):=bt HBw3.out HBW.out
      have kH:Hid (∀ X,Below wq.heap.size wq X->wq.heap.size<X.heap.size->(∀ j u,(List.replicate rn (0:Int))[j]? = some u->X.cell? ⟨wq.heap.size,j,none⟩=some (.int .i64 u))->Calls prog 9 #[.agg #[.slice ca l.length cc,.slice ra rs.length rc],.slice (some ⟨wq.heap.size,0,none⟩) rn rn,.slice aa (2*ss.length) ac] X (awZ l (K.rr rs) (List.replicate rn 0) ((xJ us).map Stv.x) X)):=fun X hX hlt hc=>by
       have hbX:Below w.heap.size w X:=bt HBwr.out hX;have hb0:Below B w X:=hbX.mono hB
       have h1:=ayX X.heap.size _ _ (.slice aa (2*ss.length) ac) l rs (some ⟨wq.heap.size,0,none⟩) rn (List.replicate rn 0) ((xJ us).map Stv.x) X (vQ _) ((HP.out.keep hb0).mono (uQ hB hbX.size)) (K.rws_mono (HQ.out.keep hb0) (uQ hB hbX.size)) (fun h=>by cases h) (fun ad ha j u hj=>by
        simp only[vX] at ha;subst ha;have e:(⟨wq.heap.size,0,none⟩:Addr).add j=⟨wq.heap.size,j,none⟩:=by unfold Addr.add;split <;> simp_all
        refine⟨hlt,?_⟩;rw[e]
        exact hc j u hj) (fun x hx=>by have:=nR hx;omega) (by rw[List.length_replicate];omega) (by
         have:=ayJ (HAS.out.keep hX) (by rw[kM,hul];omega);obtain⟨a1,c1,e1,e2,e3,e4⟩:=this
         exact⟨a1,c1,e1,e2,e3,fun hn=>by
          obtain⟨b,o,f1,f2,f3⟩:=e4 hn;exact⟨b,o,f1,by omega,fun i x hx=>d5Q (f3 i x hx) (by omega)⟩⟩) (by rw[nY,kM,hul];omega)
       rwa [List.length_replicate] at h1
      have HT9:Hid (TwoB wq w.heap.size (.slice ca l.length cc) (.slice ra rs.length rc)):=HT3.out.below HBW.out;obtain⟨t0,t1,_,_,tl⟩:=HT9.out;have HD:Hid (Below wq.heap.size wq wq.drew):=(aQ _ _).drew;clear hact hul;go_upto_region 11 with fail
      go_region_held3 (fun w'=>w'.cell? ⟨w.heap.size,0,none⟩=some (.slice ca l.length cc)/\w'.cell? ⟨w.heap.size,1,none⟩=some (.slice ra rs.length rc)) (first|assumption|(simp[go_sem, *];done))
       (first
        | (go_at_call 9;refine(kH.out _ (bt HD.out hb5) hs5 hc5).mono ?_;rintro x6 w6 ⟨W1,bd,bw,a,c,hv,ov,s',os,M,G,rfl,hrun,hbel,HI⟩;have q2:=(hbel.cell (p:=⟨w.heap.size,0,none⟩) tl5).trans q0;have q3:=(hbel.cell (p:=⟨w.heap.size,1,none⟩) tl5).trans q1)
        | (go_at_call 10;refine(d2Q rn hrn _).mono ?_;rintro x5 w5 ⟨rfl,hb5,hs5,hc5⟩;have tl5:=qX tl hb5.size;have q0:=(hb5.cell (p:=⟨w.heap.size,0,none⟩) tl).trans t0;have q1:=(hb5.cell (p:=⟨w.heap.size,1,none⟩) tl).trans t1))
      have hol:os.length=2*ss.length:=by
       have h1:=bC l (K.rr rs) ((xJ us).map Stv.x) ⟨List.replicate rn 0,-1,false,false,[]⟩;rw[hrun] at h1;simp only[nY,kM,HUL.out] at h1;exact h1
      obtain⟨css,o1,o2,o3,o4⟩:=HI.out;obtain⟨va,vc,rfl⟩:=K.P.aY o2;have HSEE:Hid (css.length=os.length/\w6.ownsRow (w5.heap.size+1) 51 6 (.slice va os.length vc) os.length css.flatten/\∀ (i:Nat) x cs,os[i]? = some x->css[i]? = some cs->tX w6 G x cs):=⟨o1,o2,o4⟩;have HRUN:Hid (tJ l (K.rr rs) ⟨List.replicate rn 0,-1,false,false,[]⟩ ((xJ us).map Stv.x)=(s',os)):=hrun;have HOL:Hid (os.length=2*ss.length):=hol;have HBw6:Hid (Below wq.heap.size wq w6):=bt (bt HD.out hb5) hbel;have HBWW:Hid (Below w.heap.size w w6):=bt HBwr.out HBw6.out;have HT6:Hid (TwoB w6 w.heap.size (.slice ca l.length cc) (.slice ra rs.length rc)):=HT9.out.below HBw6.out;have HAA:Hid (w6.ownsRow w3.heap.size 41 18 (.slice aa (2*ss.length) ac) (2*ss.length) (sfl (xJ us))):=gZ HOW.out (r:=none) ⟨HBw6.out.os,HBw6.out.tape,HBw6.out.output,HBw6.out.size,fun k hk _=>HBw6.out.block k hk⟩ (fun g hg e=>by cases e);have HUM6:Hid (∀ s∈us,mY w6 wq.heap.size s):=fun s hs=>(HUM.out s hs).keep HBw6.out;obtain⟨i5,hi5,hz50,hz51,hz52⟩:=oY K.P.wN;rw[hol];clear hrun hol o1 o2 o3 o4 HI hbel hb5 hs5 hc5 q0 q1 q2 q3 t0 t1 tl tl5 kH HOW HU3 HUM HAS hus;go_wp2
      go_loopw [16,13,14,15] (fun iv wv pv lv wx=>∃ (k i:Nat) (want:List K.P.En) (op live:Bool),iv=.int .i64 (i:Int)/\pv=.bool op/\lv=.bool live/\Hid (i=2*k/\k<=ss.length/\want.length<=k)/\Hid (Below w6.heap.size w6 wx)/\Hid (Rl want op live (tJ l (K.rr rs) ⟨List.replicate rn 0,-1,false,false,[]⟩ (((xJ us).map Stv.x).take (2*k))).1)/\Hid (wx.ownsRow w6.heap.size 53 5 wv want.length (enc want))/\Hid (∀ e∈want,e.2.1.size<=9223372036854775807)) (fun iv _ _ _ _=>2*ss.length - (intOf iv).toNat)
      case atStart=>exact⟨0,0,[],false,false,rfl,rfl,rfl,⟨rfl,nQ _,nQ _⟩,aQ _ _,K.P.cxJ rn (-1),⟨rfl,.inl ⟨rfl,rfl⟩⟩,fun e he=>by cases he⟩
      case round =>
       obtain⟨k,i,want,op,live,rfl,rfl,rfl,HK,HBX,HRL,HOW,HSZ⟩:=hrel;have hib:(i:Int)+1<=9223372036854775807/\-9223372036854775808<=(i:Int)+1:=by have:=HK.out;omega
       have hwi:IntKind.i64.wrap ((i:Int)+1)=(i:Int)+1:=by rw[bJ];omega
       by_cases h1:k<ss.length
       ·as_aux_lemma =>
        have hlt:(i:Int)+1<((2*ss.length:Nat):Int):=by have:=HK.out;omega
        have hlt2:(i:Int)+1<2*(ss.length:Int):=by have:=HK.out;omega
        obtain⟨s,hs⟩:∃ s,us[k]? = some s:=⟨_,dZ (by have:=HUL.out;omega)⟩;have HACS:Hid (s.x.act≠6):=HACT.out s (uX hs);have he:((xJ us).map Stv.x)[2*k]? = some s.x:=by rw[xA,iC,hs];rfl
        have ho:((xJ us).map Stv.x)[2*k+1]? = some uU.x:=by rw[xA,a1Z us k (by have:=HUL.out;omega)];rfl
        obtain⟨S,hS⟩:∃ S,(tJ l (K.rr rs) ⟨List.replicate rn 0,-1,false,false,[]⟩ (((xJ us).map Stv.x).take (2*k))).1=S:=⟨_,rfl⟩;have p1:=kC l (K.rr rs) ((xJ us).map Stv.x) ⟨List.replicate rn 0,-1,false,false,[]⟩ (2*k) s.x he;have p2:=kC l (K.rr rs) ((xJ us).map Stv.x) ⟨List.replicate rn 0,-1,false,false,[]⟩ (2*k+1) uU.x ho;rw[HRUN.out,hS,a2Q HER.out S HACS.out] at p1;rw[HRUN.out,p1.2,d6X HER.out] at p2;rw[hS] at HRL;obtain⟨S1,y,hy⟩:∃ S1 y,dQ 0 S (aJ l (K.rr rs) s.x)=(S1,y):=⟨_,_,rfl⟩;obtain⟨S2,z,hz⟩:∃ S2 z,dQ 0 S1 (.loo:Ev tU)=(S2,z):=⟨_,_,rfl⟩;have hS2:S2=S1:=by have:=d6Z S1;rw[hz] at this;exact this
        subst hS2;rw[hy] at p1 p2;simp only at p1 p2;rw[hz] at p2;simp only at p2;obtain⟨want',op',live',hn,hRl',hlk,hlk2⟩:=mB HRL.out (aJ l (K.rr rs) s.x) d6J;rw[hy] at hn hRl' hlk hlk2;simp only at hn hRl' hlk hlk2;rw[hz] at hn hlk hlk2;simp only at hn hlk hlk2;have HN:Hid (aV want op live y z (aJ l (K.rr rs) s.x)=some (want',op',live')):=hn
        have HRL':Hid (Rl want' op' live' (tJ l (K.rr rs) ⟨List.replicate rn 0,-1,false,false,[]⟩ (((xJ us).map Stv.x).take (2*(k+1)))).1):=by
         rw[Hid,show 2*(k+1)=2*k+1+1 by omega,p2.2];exact hRl'
        have HLK:Hid ((live' = true->z.err=0/\z.ents=want')/\(op' = true->live' = false->z.err=9)):=⟨hlk,hlk2⟩;have HY:Hid (dQ 0 S (aJ l (K.rr rs) s.x)=(S2,y)):=hy;obtain⟨xc,gS,cS,hov,hg1,hg2,hrx,hsx⟩:=lC HSEE.out.1 HSEE.out.2.1 HSEE.out.2.2 p1.1;obtain⟨lc,gS2,cS2,hov2,_,_,hrl,hsl⟩:=lC HSEE.out.1 HSEE.out.2.1 HSEE.out.2.2 p2.1;cases hov;cases hov2;rcases HAA.out.2 with⟨_,h0⟩|⟨gA,capA,curA,hva,hgA,hcA,_⟩
        ·have:=HK.out;omega
        cases hva;have hgl:gA<w6.heap.size:=(jU.1 hcA).1
        have HRA:Hid (wr.rangeAt gA (0+i*18) s.cs):=by
         obtain⟨_,_,e1,_,_,e3⟩:=fC (w:=w6) (v:=.slice (some ⟨gA,0,none⟩) (2*ss.length) ac) (ss:=xJ us) (by rw[kM,HUL.out];exact HAA.out) (a1J (fun s hs=>(HUM6.out s hs).mono HBw6.out.size));simp only[xV] at e1;obtain⟨rfl,-,rfl⟩:=e1;obtain⟨b,o,f1,f2,f3⟩:=e3 (fun e=>by have:=congrArg List.length e;rw[kM,HUL.out] at this;simp at this;omega);cases f1;have:=f3 (2*k) s (by rw[iC];exact hs);rw[HK.out.1];exact fun j u hj=>(HBX.out.cell (p:=⟨gA,0+2*k*18+j,none⟩) hgl).trans (this j u hj)
        have HRX:Hid (wr.rangeAt gS (0+i*6) xc):=fun j u hj=>(HBX.out.cell (p:=⟨gS,0+i*6+j,none⟩) hg2).trans (by rw[HK.out.1];exact hrx j u hj);have HRLk:Hid (wr.rangeAt gS (0+(i+1)*6) lc):=fun j u hj=>(HBX.out.cell (p:=⟨gS,0+(i+1)*6+j,none⟩) hg2).trans (by rw[HK.out.1];exact hrl j u hj);obtain⟨tv,ev,ux,lux,ldx,rfl,htold,hevx,_⟩:=hsx;obtain⟨tv2,ev2,ux2,lux2,ldx2,rfl,htold2,hevl,_⟩:=hsl;obtain⟨ea,ec,rfl⟩:=K.P.aY hevx;obtain⟨la,lc,rfl⟩:=K.P.aY hevl
        have htv:∃ a n c,tv=.slice a n c:=by
         rcases htold with⟨_,h,_⟩|⟨vs,n,g,_,_,_,_,h,_⟩
         ·exact⟨_,_,_,h⟩
         ·exact⟨_,_,_,h⟩
        obtain⟨ta,tn,tc,rfl⟩:=htv
        have htv2:∃ a n c,tv2=.slice a n c:=by
         rcases htold2 with⟨_,h,_⟩|⟨vs,n,g,_,_,_,_,h,_⟩
         ·exact⟨_,_,_,h⟩
         ·exact⟨_,_,_,h⟩
        obtain⟨ta2,tn2,tc2,rfl⟩:=htv2
        have hx1:∀ u∈([.int .i64 y.err,.slice ta tn tc,.int .i64 ux,.int .i64 lux,.int .i64 ldx,.slice ea y.ents.length ec]:List Value),u.oneCell' = true:=by
         intro u hu;simp only[yX,jJ,vJ] at hu;rcases hu with rfl|rfl|rfl|rfl|rfl|rfl <;> rfl
        have hl1:∀ u∈([.int .i64 z.err,.slice ta2 tn2 tc2,.int .i64 ux2,.int .i64 lux2,.int .i64 ldx2,.slice la z.ents.length lc]:List Value),u.oneCell' = true:=by
         intro u hu;simp only[yX,jJ,vJ] at hu;rcases hu with rfl|rfl|rfl|rfl|rfl|rfl <;> rfl
        have HEV:Hid (w6.ownsRow 0 53 5 (.slice la z.ents.length lc) z.ents.length (enc z.ents)):=hevl
        have HTO:Hid (y.told=none\/∃ vs n,y.told=some (vs,n,lux,ldx)):=by
         rcases htold with⟨h,_⟩|⟨vs,n,g,h,_⟩
         ·exact .inl h
         ·exact .inr ⟨vs,n,h⟩
        have HSM:Hid (mY w6 wq.heap.size s):=HUM6.out s (uX hs);have z1:i<2*ss.length:=by have:=HK.out;omega
        have z2:i+1<2*ss.length:=by have:=HK.out;omega
        have z3:2*ss.length<=10000000000000:=by omega
        have z4:gA<wr.heap.size:=qX hgl HBX.out.size;have z5:gS<wr.heap.size:=qX hg2 HBX.out.size;clear htold htold2 hevl hevx hrx hrl p1 p2 hn hRl' hlk hlk2 hy hz hS he ho hs hcA hg1;go_upto_region 19 with fail;refine wp_region_noPanic (d2Z (fun _ _ _ _ _ h=>h) _ _ _ _ _ _ _ _ _ _ _ _ _ _ _ _ _ _ _ _ _ _ _ _ _ _ _ _ _ _ _ _ _ _ _ _ _ _ _ _ _ _ _ _ _ _ _ _ _ _ _ _ _ _ _ _ _ _ _ _ _ _ _ _ _ _ _ _ _ _ _ _ _ _ _ _ _ _ _ _ _ _ _ _ _ _ _ _ _ _ _ _ _ _ _ _ _ _ _ _ _ _ _ _ _ _ _ _ _ _ _ _ _ _ _ _ _ _ _ _ _ _ _ _ _ _ _ _ _ _ _ _ _ _ _ _ _ _ _ _ _ _ _ _ _ _ _ _ _ _ _ _ _ _ _ _ _ _ _ _ _ _ _ _ _ _ _ _ _ _ _ _ _ _ _ _ _ _ _ _ _ _ _ _ _ _ _ _ _ _ _ _ _ _ _ _ _ _ wr gA gS (2*ss.length) ac (2*ss.length) vc i (i+1) rfl s _ _ _ _ _ _ _ _ _ _ _ _ hx1 hl1 z1 z2 z3 z4 z5 HRA.out HRX.out HRLk.out ?_);intro u71 u72 u73 u74 u75 u76 u77 u78 u79 u80 u81 u82 u83 b1 b2 b3 wf hbF hO1 hO2 hO3 hge;refine NoPanic.normal ?_;have HBF:Hid (Below w6.heap.size w6 wf):=bt HBX.out hbF;have HOF:Hid (wf.ownsRow w6.heap.size 53 5 u13 want.length (enc want)):=gZ HOW.out (r:=none) ⟨hbF.os,hbF.tape,hbF.output,hbF.size,fun k hk _=>hbF.block k hk⟩ (fun g hg e=>by cases e);have HB1:Hid (Bx wf b1 s.cs):=hO1.bx;have HB2:Hid (Bx wf b2 [.int .i64 y.err,.slice ta tn tc,.int .i64 ux,.int .i64 lux,.int .i64 ldx,.slice ea y.ents.length ec]):=hO2.bx;have HB3:Hid (Bx wf b3 [.int .i64 z.err,.slice ta2 tn2 tc2,.int .i64 ux2,.int .i64 lux2,.int .i64 ldx2,.slice la z.ents.length lc]):=hO3.bx;have HGW:Hid (wr.heap.size<=b1/\wr.heap.size<=b2/\wr.heap.size<=b3):=hge;have HGE:Hid (w6.heap.size<=b1/\w6.heap.size<=b2/\w6.heap.size<=b3):=by have:=HBX.out.size;exact⟨by omega,by omega,by omega⟩
        have c0:=(HB1.out 0 _ rfl).c;have x0:=(HB2.out 0 _ rfl).c;have y0:=(HB3.out 0 _ rfl).c;have y5:=(HB3.out 5 _ rfl).c;clear hx1 hl1 z1 z2 z3 z4 z5 HRA HRX HRLk hO1 hO2 hO3 hge hbF hlt hlt2;by_cases h1':s.x.act=1
        ·as_aux_lemma =>
         have b1':(s.x.act == 1)=true:=by simpa using h1'
         have hev:aJ l (K.rr rs) s.x=.opn:=by unfold aJ;rw[xQ h1']
         have hN:=HN.out;rw[hev] at hN;simp only[aV] at hN;by_cases he0:y.err=0
         ·rw[qQ (by simpa using he0)] at hN
          simp only[vX,cQ] at hN;obtain⟨rfl,rfl,rfl⟩:=hN;have q0:(y.err != 0)=false:=by simpa using he0
          clear hev;have HBV:=HBF;have HOV:=HOF;have HKN:Hid (i+2=2*(k+1)/\k+1<=ss.length/\(want).length<=k+1):=by have:=HK.out;refine⟨by omega,by omega,?_⟩;(try simp only[zJ,bY]);omega
          have hw2:IntKind.i64.wrap ((i:Int)+2)=(i:Int)+2:=by rw[bJ];have:=HK.out;omega
          have HZ:=HLK.out.1 (by first|rfl|trivial);have HZ1:Hid (z.err=0):=HZ.1;have HZ2:Hid (z.ents=want):=HZ.2;have hsz:∀ e∈want,e.2.1.size<=9223372036854775807:=HSZ.out;have HSZ':Hid (∀ e∈want,e.2.1.size<=9223372036854775807):=hsz;obtain⟨wa,wc,hwv⟩:=K.P.aY HOV.out;obtain⟨nW,hnW⟩:∃ nW,(want).length=nW:=⟨_,rfl⟩;rw[hnW] at hwv;clear hnW;have HEV2:Hid (wf.ownsRow 0 53 5 (.slice la z.ents.length lc) z.ents.length (enc z.ents)):=gZ HEV.out (r:=none) ⟨HBV.out.os,HBV.out.tape,HBV.out.output,HBV.out.size,fun k hk _=>HBV.out.block k hk⟩ (fun g hg e=>by cases e);have kS:=K.P.tK wf.heap.size (.slice la z.ents.length lc) u13 z.ents (want) wf (vQ _) (K.P.wG HEV2.out (by rw[HZ2.out];have:=HKN.out;omega) (by rw[HZ2.out];exact hsz)) (K.P.wG HOV.out (by have:=HKN.out;omega) hsz) true (by rw[HZ2.out];simp);have HOV':Hid (wf.ownsRow w6.heap.size 53 5 u13 (want).length (enc (want))):=HOV.out;have qz:(z.err != 0)=false:=by rw[HZ1.out];rfl
          have qz2:(z.err == 0)=true:=by rw[HZ1.out];rfl
          subst hwv;clear HZ hsz HEV2;go_wp2_with fail;refine kS.mono ?_;rintro x9 w9 ⟨rfl,hb9⟩;have HB9:Hid (Below w6.heap.size w6 w9):=bt HBV.out hb9;have HO9:Hid (w9.ownsRow w6.heap.size 53 5 (.slice wa nW wc) (want).length (enc (want))):=gZ HOV'.out (r:=none) ⟨hb9.os,hb9.tape,hb9.output,hb9.size,fun k hk _=>hb9.block k hk⟩ (fun g hg e=>by cases e);clear kS hb9 HOV HOV' qz qz2;go_wp2
          go_roundw
          case rel=>exact⟨k+1,i+2,want,true,true,by go_num,rfl,rfl,HKN,HB9,HRL',HO9,HSZ'⟩
          case measure=>have:=HK.out;simp[intOf];omega
         ·rw[xQ he0] at hN
          cases hN
        by_cases h2':s.x.act=2
        ·as_aux_lemma =>
         have b1':(s.x.act == 1)=false:=by simpa using h1'
         have b2':(s.x.act == 2)=true:=by simpa using h2'
         have b3':(s.x.act == 3)=false:=by rw[h2'];rfl
         have hev:aJ l (K.rr rs) s.x=.pur (1,s.x.nm,0,s.x.bu,s.x.bd):=by unfold aJ;rw[qQ h1',qQ (by omega),xQ h2']
         have hN:=HN.out;rw[hev] at hN;simp only[aV] at hN;cases live with
         | true =>
          have hop:op=true:=HRL.out.lv rfl;subst hop;by_cases he0:y.err=0
          ·rw[xQ ⟨rfl,he0⟩] at hN
           simp only[vX,cQ] at hN;obtain⟨rfl,rfl,rfl⟩:=hN;have q0:(y.err == 0)=true:=by simpa using he0
           have c2:=(HB1.out 2 _ rfl).c;have c3:=(HB1.out 3 _ rfl).c;have c4:=(HB1.out 4 _ rfl).c;have hnr:nrm (1,s.x.nm,0,s.x.bu,s.x.bd)=(1,s.x.nm,0,s.x.bu,s.x.bd):=rfl;rw[hnr] at HRL' HLK;obtain⟨nbq,_,_,_,_,_,_,_,hnm,_⟩:=HSM.out;have HNM:Hid (s.x.nm.size<=9223372036854775807):=hnm;clear hev hnr hnm;have HO5:Hid ((wf.alloc (.cells #[.int .i64 1,.string s.x.nm,.int .i64 0,.int .i64 s.x.bu,.int .i64 s.x.bd] 53)).ownsRow w6.heap.size 53 5 u13 want.length (enc want)):=HOF.out.alloc _
           have HQ2:Hid (∀ j u,([.int .i64 1,.string s.x.nm,.int .i64 0,.int .i64 s.x.bu,.int .i64 s.x.bd]:List Value)[j]? = some u->(wf.alloc (.cells #[.int .i64 1,.string s.x.nm,.int .i64 0,.int .i64 s.x.bu,.int .i64 s.x.bd] 53)).cell? ((⟨wf.heap.size,0,none⟩:Addr).add j)=some u):=by
            intro j u hj;have e:(⟨wf.heap.size,0,none⟩:Addr).add j=⟨wf.heap.size,j,none⟩:=by unfold Addr.add;split <;> simp_all
            rw[e];exact(Bx.new wf [.int .i64 1,.string s.x.nm,.int .i64 0,.int .i64 s.x.bu,.int .i64 s.x.bd] 53 rfl j u hj).c
           have HQ3:Hid (∀ u∈([.int .i64 1,.string s.x.nm,.int .i64 0,.int .i64 s.x.bu,.int .i64 s.x.bd]:List Value),u.oneCell' = true):=by
            intro u hu;simp only[yX,jJ,vJ] at hu;rcases hu with rfl|rfl|rfl|rfl|rfl <;> rfl
           have HQ4:Hid (want.length+1<=maxLen):=by have:=HK.out;show _<=_;unfold maxLen;omega
           have HQ5:Hid ((want.length+1)*48<=140737488355328):=by have:=HK.out;show _<=_;omega
           have HQ6:Hid (w6.heap.size<=(wf.alloc (.cells #[.int .i64 1,.string s.x.nm,.int .i64 0,.int .i64 s.x.bu,.int .i64 s.x.bd] 53)).heap.size):=by have:=HBF.out.size;show _<=_;simp;omega
           have HQ7:Hid ((wf.alloc (.cells #[.int .i64 1,.string s.x.nm,.int .i64 0,.int .i64 s.x.bu,.int .i64 s.x.bd] 53)).heap.size=wf.heap.size+1):=by show _=_;simp
           go_upto_region 25 with fail;refine jV ?_;go_step;go_step;go_step;go_step;go_step;go_step;go_step;go_step;go_step;go_step;go_step;go_step;go_step;go_step;go_step;refine a2Z rfl 53 0 1 3 _ _ _ rfl _ rfl _ _ _ rfl rfl rfl #[.int .i64 1,.string s.x.nm,.int .i64 0,.int .i64 s.x.bu,.int .i64 s.x.bd] (eaJ _ _ _) ?_;refine lY rfl 47 53 _ rfl wf.heap.size rfl _ rfl underlying47 (.agg #[.int .i64 1,.string s.x.nm,.int .i64 0,.int .i64 s.x.bu,.int .i64 s.x.bd]) rfl #[.int .i64 1,.string s.x.nm,.int .i64 0,.int .i64 s.x.bu,.int .i64 s.x.bd] (pC _ _ _ _ _) ?_;refine pY _ rfl _ _ 47 rfl w6.heap.size 53 i5 (.agg #[.int .i64 0,.string ⟨#[]⟩,.int .i64 0,.int .i64 0,.int .i64 0]) 5 48 underlying47 hi5 hz50 hz51 hz52 rfl (by decide) _ _ _ rfl HO5.out ⟨wf.heap.size,0,none⟩ 1 1 [.int .i64 1,.string s.x.nm,.int .i64 0,.int .i64 s.x.bu,.int .i64 s.x.bd] rfl rfl HQ2.out HQ3.out (by decide) HQ4.out HQ5.out HQ6.out (wf.heap.size+1) HQ7.out ?_;intro g cap w8 hown hgrow hat hglt;have hlt6:=HBF.out.size
           have HBV:Hid (Below w6.heap.size w6 w8):=by
            refine⟨hgrow.os.trans HBF.out.os,hgrow.tape.trans HBF.out.tape,hgrow.output.trans HBF.out.output,uQ hlt6 (uQ (by simp) hgrow.size),fun k hk=>?_⟩;refine(hgrow.block k (by simp;omega) (fun e=>?_)).trans ((eV _ _ _ (by omega)).trans (HBF.out.block k hk));have:=(yZ HOW.out e.symm).1;omega
           have HKW:Hid (Keeps wf w8 (fun k=>u13.ownBlock=some k)):=⟨hgrow.os,hgrow.tape,hgrow.output,uQ (by simp) hgrow.size,fun k hk hn=>(hgrow.block k (by simp;omega) (fun e=>hn e.symm)).trans (eV _ _ _ hk)⟩;have HB38:Hid (Bx w8 b3 [.int .i64 z.err,.slice ta2 tn2 tc2,.int .i64 ux2,.int .i64 lux2,.int .i64 ldx2,.slice la z.ents.length lc]):=HB3.out.kp HKW.out (fun e=>by have:=(yZ HOW.out e).2;have:=HGW.out;omega)
           have HOV0:Hid (w8.ownsRow w6.heap.size 53 5 (.slice (some ⟨g,0,none⟩) (want.length+1) cap) (want++[(1,s.x.nm,0,s.x.bu,s.x.bd)]).length (enc (want++[(1,s.x.nm,0,s.x.bu,s.x.bd)]))):=by
            have e:enc (want++[(1,s.x.nm,0,s.x.bu,s.x.bd)])=enc want++K.P.tD (1,s.x.nm,0,s.x.bu,s.x.bd):=by simp[enc]
            rw[Hid,e,zJ,bY];exact hown
           obtain⟨wv,hwv0⟩:∃ wv,Value.slice (some ⟨g,0,none⟩) (want.length+1) cap=wv:=⟨_,rfl⟩;rw[hwv0] at HOV0 ⊢;have HOV:=HOV0;clear hwv0 hown hgrow hat hglt HO5 HQ2 HQ3 HQ4 HQ5 HQ6 HQ7 c0 x0 y0 y5 HOV0 HKW hlt6;have y0:=(HB38.out 0 _ rfl).c;have y5:=(HB38.out 5 _ rfl).c;have HKN:Hid (i+2=2*(k+1)/\k+1<=ss.length/\((want++[(1,s.x.nm,0,s.x.bu,s.x.bd)])).length<=k+1):=by have:=HK.out;refine⟨by omega,by omega,?_⟩;(try simp only[zJ,bY]);omega
           have hw2:IntKind.i64.wrap ((i:Int)+2)=(i:Int)+2:=by rw[bJ];have:=HK.out;omega
           have HZ:=HLK.out.1 (by first|rfl|trivial);have HZ1:Hid (z.err=0):=HZ.1;have HZ2:Hid (z.ents=(want++[(1,s.x.nm,0,s.x.bu,s.x.bd)])):=HZ.2;have hsz:∀ e∈(want++[(1,s.x.nm,0,s.x.bu,s.x.bd)]),e.2.1.size<=9223372036854775807:=(fun e he=>by simp only[zY,uI] at he;rcases he with he|rfl;exact HSZ.out e he;exact HNM.out);have HSZ':Hid (∀ e∈(want++[(1,s.x.nm,0,s.x.bu,s.x.bd)]),e.2.1.size<=9223372036854775807):=hsz;obtain⟨wa,wc,hwv⟩:=K.P.aY HOV.out;obtain⟨nW,hnW⟩:∃ nW,((want++[(1,s.x.nm,0,s.x.bu,s.x.bd)])).length=nW:=⟨_,rfl⟩;rw[hnW] at hwv;clear hnW;have HEV2:Hid (w8.ownsRow 0 53 5 (.slice la z.ents.length lc) z.ents.length (enc z.ents)):=gZ HEV.out (r:=none) ⟨HBV.out.os,HBV.out.tape,HBV.out.output,HBV.out.size,fun k hk _=>HBV.out.block k hk⟩ (fun g hg e=>by cases e);have kS:=K.P.tK w8.heap.size (.slice la z.ents.length lc) wv z.ents ((want++[(1,s.x.nm,0,s.x.bu,s.x.bd)])) w8 (vQ _) (K.P.wG HEV2.out (by rw[HZ2.out];have:=HKN.out;omega) (by rw[HZ2.out];exact hsz)) (K.P.wG HOV.out (by have:=HKN.out;omega) hsz) true (by rw[HZ2.out];simp);have HOV':Hid (w8.ownsRow w6.heap.size 53 5 wv ((want++[(1,s.x.nm,0,s.x.bu,s.x.bd)])).length (enc ((want++[(1,s.x.nm,0,s.x.bu,s.x.bd)])))):=HOV.out;have qz:(z.err != 0)=false:=by rw[HZ1.out];rfl
           have qz2:(z.err == 0)=true:=by rw[HZ1.out];rfl
           subst hwv;clear HZ hsz HEV2;go_wp2_with fail;refine kS.mono ?_;rintro x9 w9 ⟨rfl,hb9⟩;have HB9:Hid (Below w6.heap.size w6 w9):=bt HBV.out hb9;have HO9:Hid (w9.ownsRow w6.heap.size 53 5 (.slice wa nW wc) ((want++[(1,s.x.nm,0,s.x.bu,s.x.bd)])).length (enc ((want++[(1,s.x.nm,0,s.x.bu,s.x.bd)])))):=gZ HOV'.out (r:=none) ⟨hb9.os,hb9.tape,hb9.output,hb9.size,fun k hk _=>hb9.block k hk⟩ (fun g hg e=>by cases e);clear kS hb9 HOV HOV' qz qz2;go_wp2
           go_roundw
           case rel=>exact⟨k+1,i+2,(want++[(1,s.x.nm,0,s.x.bu,s.x.bd)]),true,true,by go_num,rfl,rfl,HKN,HB9,HRL',HO9,HSZ'⟩
           case measure=>have:=HK.out;simp[intOf];omega
          ·rw[qQ (fun h=>he0 h.2)] at hN
           have q0:(y.err == 0)=false:=by simpa using he0
           by_cases he11:y.err=11
           ·rw[xQ ⟨rfl,he11⟩] at hN
            simp only[vX,cQ] at hN;obtain⟨rfl,rfl,rfl⟩:=hN;have q11:(y.err == 11)=true:=by simpa using he11
            clear hev;have HBV:=HBF;have HOV:=HOF;have HKN:Hid (i+2=2*(k+1)/\k+1<=ss.length/\(want).length<=k+1):=by have:=HK.out;refine⟨by omega,by omega,?_⟩;(try simp only[zJ,bY]);omega
            have hw2:IntKind.i64.wrap ((i:Int)+2)=(i:Int)+2:=by rw[bJ];have:=HK.out;omega
            have HSZ':Hid (∀ e∈want,e.2.1.size<=9223372036854775807):=HSZ.out;have HZ1:Hid (z.err=9):=HLK.out.2 (by first|rfl|trivial) (by first|rfl|trivial);have qz:(z.err != 9)=false:=by rw[HZ1.out];rfl
            have qz2:(z.err == 9)=true:=by rw[HZ1.out];rfl
            go_wp2
            go_roundw
            case rel=>exact⟨k+1,i+2,want,true,false,by go_num,rfl,rfl,HKN,HBV,HRL',HOV,HSZ'⟩
            case measure=>have:=HK.out;simp[intOf];omega
           ·rw[qQ (fun h=>he11 h.2)] at hN
            simp only[vX,cQ] at hN;obtain⟨rfl,rfl,rfl⟩:=hN;have q11:(y.err == 11)=false:=by simpa using he11
            clear hev;have HBV:=HBF;have HOV:=HOF;have HKN:Hid (i+2=2*(k+1)/\k+1<=ss.length/\(want).length<=k+1):=by have:=HK.out;refine⟨by omega,by omega,?_⟩;(try simp only[zJ,bY]);omega
            have hw2:IntKind.i64.wrap ((i:Int)+2)=(i:Int)+2:=by rw[bJ];have:=HK.out;omega
            have HZ:=HLK.out.1 (by first|rfl|trivial);have HZ1:Hid (z.err=0):=HZ.1;have HZ2:Hid (z.ents=want):=HZ.2;have hsz:∀ e∈want,e.2.1.size<=9223372036854775807:=HSZ.out;have HSZ':Hid (∀ e∈want,e.2.1.size<=9223372036854775807):=hsz;obtain⟨wa,wc,hwv⟩:=K.P.aY HOV.out;obtain⟨nW,hnW⟩:∃ nW,(want).length=nW:=⟨_,rfl⟩;rw[hnW] at hwv;clear hnW;have HEV2:Hid (wf.ownsRow 0 53 5 (.slice la z.ents.length lc) z.ents.length (enc z.ents)):=gZ HEV.out (r:=none) ⟨HBV.out.os,HBV.out.tape,HBV.out.output,HBV.out.size,fun k hk _=>HBV.out.block k hk⟩ (fun g hg e=>by cases e);have kS:=K.P.tK wf.heap.size (.slice la z.ents.length lc) u13 z.ents (want) wf (vQ _) (K.P.wG HEV2.out (by rw[HZ2.out];have:=HKN.out;omega) (by rw[HZ2.out];exact hsz)) (K.P.wG HOV.out (by have:=HKN.out;omega) hsz) true (by rw[HZ2.out];simp);have HOV':Hid (wf.ownsRow w6.heap.size 53 5 u13 (want).length (enc (want))):=HOV.out;have qz:(z.err != 0)=false:=by rw[HZ1.out];rfl
            have qz2:(z.err == 0)=true:=by rw[HZ1.out];rfl
            subst hwv;clear HZ hsz HEV2;go_wp2_with fail;refine kS.mono ?_;rintro x9 w9 ⟨rfl,hb9⟩;have HB9:Hid (Below w6.heap.size w6 w9):=bt HBV.out hb9;have HO9:Hid (w9.ownsRow w6.heap.size 53 5 (.slice wa nW wc) (want).length (enc (want))):=gZ HOV'.out (r:=none) ⟨hb9.os,hb9.tape,hb9.output,hb9.size,fun k hk _=>hb9.block k hk⟩ (fun g hg e=>by cases e);clear kS hb9 HOV HOV' qz qz2;go_wp2
            go_roundw
            case rel=>exact⟨k+1,i+2,want,true,true,by go_num,rfl,rfl,HKN,HB9,HRL',HO9,HSZ'⟩
            case measure=>have:=HK.out;simp[intOf];omega
         | false =>
          rw[qQ (fun h=>by cases h.1),qQ (fun h=>by cases h.1)] at hN;simp only[vX,cQ] at hN;obtain⟨rfl,rfl,rfl⟩:=hN;clear hev;have HBV:=HBF;have HOV:=HOF;have HKN:Hid (i+2=2*(k+1)/\k+1<=ss.length/\(want).length<=k+1):=by have:=HK.out;refine⟨by omega,by omega,?_⟩;(try simp only[zJ,bY]);omega
          have hw2:IntKind.i64.wrap ((i:Int)+2)=(i:Int)+2:=by rw[bJ];have:=HK.out;omega
          have HSZ':Hid (∀ e∈want,e.2.1.size<=9223372036854775807):=HSZ.out;cases op with
          | true =>
           have HZ1:Hid (z.err=9):=HLK.out.2 (by first|rfl|assumption|trivial) (by first|rfl|trivial);have qz:(z.err != 9)=false:=by rw[HZ1.out];rfl
           have qz2:(z.err == 9)=true:=by rw[HZ1.out];rfl
           go_wp2
           go_roundw
           case rel=>exact⟨k+1,i+2,want,true,false,by go_num,rfl,rfl,HKN,HBV,HRL',HOV,HSZ'⟩
           case measure=>have:=HK.out;simp[intOf];omega
          | false =>
           go_wp2
           go_roundw
           case rel=>exact⟨k+1,i+2,want,false,false,by go_num,rfl,rfl,HKN,HBV,HRL',HOV,HSZ'⟩
           case measure=>have:=HK.out;simp[intOf];omega
        by_cases h3':s.x.act=3
        ·as_aux_lemma =>
         have b1':(s.x.act == 1)=false:=by simpa using h1'
         have b2':(s.x.act == 2)=false:=by simpa using h2'
         have b3':(s.x.act == 3)=true:=by simpa using h3'
         have hev:aJ l (K.rr rs) s.x=sI l (K.rr rs) s.x:=by unfold aJ;rw[qQ h1',qQ (by omega),qQ h2',xQ h3']
         obtain⟨nm0,sz0,hl0,hnam⟩:=axJ HER.out;obtain⟨zq,ez,hzz⟩:∃ zq ez,K.cA (K.prt l s.x.q nm0)=(zq,ez):=⟨_,_,rfl⟩;obtain⟨ls,lu,ld,e1,hA⟩:∃ ls lu ld e1,fU s.x.u s.x.d s.x.lo s.x.hi l (K.rr rs) s.x.q=(ls,lu,ld,e1):=⟨_,_,_,_,rfl⟩;have hask:sI l (K.rr rs) s.x=.ask (gD e1 s.x.bits) (zZ s.x.pn zq ez lu ld) ((oJ ls s.x.bits 0 []).map fun t=>(t.1,t.2,lu,ld)):=by unfold sI;rw[hnam,hzz,hA]
         have hN:=HN.out;have hY':=HY.out;rw[hev,hask] at hN hY';simp only[aV] at hN;cases live with
         | true =>
          have hop:op=true:=HRL.out.lv rfl;subst hop;have hup:S.up=true:=HRL.out.up;by_cases he0:y.err=0
          ·as_aux_lemma =>
           rw[xQ ⟨rfl,he0⟩] at hN;simp only[vX,cQ] at hN;obtain⟨rfl,rfl,rfl⟩:=hN;have q0:(y.err == 0)=true:=by simpa using he0
           obtain⟨t9,ht9,hto9⟩:=d9Z hY' hup he0
           obtain⟨vs9,n9,rfl⟩:∃ vs n,t9=(vs,n,lu,ld):=by
            obtain⟨t,_,rfl⟩:=gO.1 ht9;exact⟨_,_,rfl⟩
           obtain⟨rfl,rfl⟩:lux=lu/\ldx=ld:=by
            rcases HTO.out with h|⟨vs,n,h⟩
            ·rw[h] at hto9;cases hto9
            ·rw[h] at hto9
             simp only[vX,cQ] at hto9;exact⟨hto9.2.2.1,hto9.2.2.2⟩
           rw[d9J] at HRL' HLK;obtain⟨nbq,hqm,_,_,_,_,_,_,_,hpn⟩:=HSM.out;have hbq:Below wq.heap.size w6 wf:=HBF.out.mono HBw6.out.size;have hb0:Below B w wf:=(bt HBWW.out HBF.out).mono hB;have kP:=K.P.d2X wf.heap.size l (.slice ca l.length cc) (.slice ra rs.length rc) s.x.pn _ _ _ _ _ _ (.slice s.xa s.x.bits.length s.xc) s.x.q s.x.u s.x.d s.x.lo s.x.hi lux ldx wf (vQ _) ((HP.out.keep hb0).mono (uQ hB (bt HBWW.out HBF.out).size)) ⟨_,_,_,rfl⟩ (K.P.iM (uQ HBw6.out.size HBF.out.size) _ (hqm.keep hbq)) ⟨_,_,_,rfl⟩ nm0 sz0 hl0 zq ez hzz;obtain⟨E,hE⟩:∃ E,zZ s.x.pn zq ez lux ldx=E:=⟨_,rfl⟩;have HEN:Hid (E.2.1.size<=9223372036854775807):=by rw[Hid,<-hE,eaQ];exact hpn
           rw[hE] at kP HRL' HLK
           have HRQ:Hid (wf.rangeAt b1 5 [.string s.x.pn,.int .i64 s.v0,.string s.v1,.int .i64 s.v2,.int .i64 s.v3,.slice s.a4 s.n4 s.c4,.slice s.a5 s.n5 s.c5,.int .i64 s.x.u,.int .i64 s.x.d,.int .i64 s.x.lo,.int .i64 s.x.hi,.slice s.xa s.x.bits.length s.xc]):=fun j v hj=>by
            have e:([.string s.x.pn,.int .i64 s.v0,.string s.v1,.int .i64 s.v2,.int .i64 s.v3,.slice s.a4 s.n4 s.c4,.slice s.a5 s.n5 s.c5,.int .i64 s.x.u,.int .i64 s.x.d,.int .i64 s.x.lo,.int .i64 s.x.hi,.slice s.xa s.x.bits.length s.xc]:List Value)=(s.cs.drop 5).take 12:=rfl;rw[e,eH] at hj;split at hj
            ·rw[kF] at hj
             exact(HB1.out (5+j) v hj).c
            ·cases hj
           obtain⟨t0,t1,_,_,_⟩:=HT6.out.below HBF.out;have x3:=(HB2.out 3 _ rfl).c;have x4:=(HB2.out 4 _ rfl).c;clear hev hask hY' hup ht9 hto9 hqm hbq hb0 hE hl0 hzz hA hnam HTO;go_upto_region 27 with fail;refine jV ?_;go_step;go_step;go_step;go_step;go_step;go_step;go_step;go_step;go_step;refine yI rfl 39 _ rfl b1 5 rfl [.string s.x.pn,.int .i64 s.v0,.string s.v1,.int .i64 s.v2,.int .i64 s.v3,.slice s.a4 s.n4 s.c4,.slice s.a5 s.n5 s.c5,.int .i64 s.x.u,.int .i64 s.x.d,.int .i64 s.x.lo,.int .i64 s.x.hi,.slice s.xa s.x.bits.length s.xc] _ HRQ.out underlying39 rfl dC ?_;go_wp2_with fail;refine kP.mono ?_;rintro x7 w7 ⟨rfl,hb7⟩;have HBF7:Hid (Below w6.heap.size w6 w7):=bt HBF.out hb7;have HOF7:Hid (w7.ownsRow w6.heap.size 53 5 u13 want.length (enc want)):=gZ HOF.out (r:=none) ⟨hb7.os,hb7.tape,hb7.output,hb7.size,fun k hk _=>hb7.block k hk⟩ (fun g hg e=>by cases e);have HB37:Hid (Bx w7 b3 [.int .i64 z.err,.slice ta2 tn2 tc2,.int .i64 ux2,.int .i64 lux2,.int .i64 ldx2,.slice la z.ents.length lc]):=HB3.out.at hb7;clear kP hb7 t0 t1 x3 x4;have HO5:Hid ((w7.alloc (.cells #[.int .i64 E.1,.string E.2.1,.int .i64 E.2.2.1,.int .i64 E.2.2.2.1,.int .i64 E.2.2.2.2] 53)).ownsRow w6.heap.size 53 5 u13 want.length (enc want)):=HOF7.out.alloc _
           have HQ2:Hid (∀ j u,([.int .i64 E.1,.string E.2.1,.int .i64 E.2.2.1,.int .i64 E.2.2.2.1,.int .i64 E.2.2.2.2]:List Value)[j]? = some u->(w7.alloc (.cells #[.int .i64 E.1,.string E.2.1,.int .i64 E.2.2.1,.int .i64 E.2.2.2.1,.int .i64 E.2.2.2.2] 53)).cell? ((⟨w7.heap.size,0,none⟩:Addr).add j)=some u):=by
            intro j u hj;have e:(⟨w7.heap.size,0,none⟩:Addr).add j=⟨w7.heap.size,j,none⟩:=by unfold Addr.add;split <;> simp_all
            rw[e];exact(Bx.new w7 [.int .i64 E.1,.string E.2.1,.int .i64 E.2.2.1,.int .i64 E.2.2.2.1,.int .i64 E.2.2.2.2] 53 rfl j u hj).c
           have HQ3:Hid (∀ u∈([.int .i64 E.1,.string E.2.1,.int .i64 E.2.2.1,.int .i64 E.2.2.2.1,.int .i64 E.2.2.2.2]:List Value),u.oneCell' = true):=by
            intro u hu;simp only[yX,jJ,vJ] at hu;rcases hu with rfl|rfl|rfl|rfl|rfl <;> rfl
           have HQ4:Hid (want.length+1<=maxLen):=by have:=HK.out;show _<=_;unfold maxLen;omega
           have HQ5:Hid ((want.length+1)*48<=140737488355328):=by have:=HK.out;show _<=_;omega
           have HQ6:Hid (w6.heap.size<=(w7.alloc (.cells #[.int .i64 E.1,.string E.2.1,.int .i64 E.2.2.1,.int .i64 E.2.2.2.1,.int .i64 E.2.2.2.2] 53)).heap.size):=by have:=HBF7.out.size;show _<=_;simp;omega
           have HQ7:Hid ((w7.alloc (.cells #[.int .i64 E.1,.string E.2.1,.int .i64 E.2.2.1,.int .i64 E.2.2.2.1,.int .i64 E.2.2.2.2] 53)).heap.size=w7.heap.size+1):=by show _=_;simp
           dsimp only;go_step;refine lY rfl 47 53 _ rfl w7.heap.size rfl _ rfl underlying47 (.agg #[.int .i64 E.1,.string E.2.1,.int .i64 E.2.2.1,.int .i64 E.2.2.2.1,.int .i64 E.2.2.2.2]) rfl #[.int .i64 E.1,.string E.2.1,.int .i64 E.2.2.1,.int .i64 E.2.2.2.1,.int .i64 E.2.2.2.2] (pC _ _ _ _ _) ?_;refine wpList_append_lies _ rfl _ _ 47 rfl w6.heap.size 53 i5 (.agg #[.int .i64 0,.string ⟨#[]⟩,.int .i64 0,.int .i64 0,.int .i64 0]) 5 48 underlying47 hi5 hz50 hz51 hz52 rfl (by decide) _ _ _ rfl HO5.out ⟨w7.heap.size,0,none⟩ 1 1 [.int .i64 E.1,.string E.2.1,.int .i64 E.2.2.1,.int .i64 E.2.2.2.1,.int .i64 E.2.2.2.2] rfl rfl HQ2.out HQ3.out (by decide) HQ4.out HQ5.out HQ6.out (w7.heap.size+1) HQ7.out ?_;intro g cap w8 hown hgrow hat hglt;have hlt6:=HBF7.out.size
           have HBV:Hid (Below w6.heap.size w6 w8):=by
            refine⟨hgrow.os.trans HBF7.out.os,hgrow.tape.trans HBF7.out.tape,hgrow.output.trans HBF7.out.output,uQ hlt6 (uQ (by simp) hgrow.size),fun k hk=>?_⟩;refine(hgrow.block k (by simp;omega) (fun e=>?_)).trans ((eV _ _ _ (by omega)).trans (HBF7.out.block k hk));have:=(yZ HOW.out e.symm).1;omega
           have HKW:Hid (Keeps w7 w8 (fun k=>u13.ownBlock=some k)):=⟨hgrow.os,hgrow.tape,hgrow.output,uQ (by simp) hgrow.size,fun k hk hn=>(hgrow.block k (by simp;omega) (fun e=>hn e.symm)).trans (eV _ _ _ hk)⟩;have HB38:Hid (Bx w8 b3 [.int .i64 z.err,.slice ta2 tn2 tc2,.int .i64 ux2,.int .i64 lux2,.int .i64 ldx2,.slice la z.ents.length lc]):=HB37.out.kp HKW.out (fun e=>by have:=(yZ HOW.out e).2;have:=HGW.out;omega)
           have HOV0:Hid (w8.ownsRow w6.heap.size 53 5 (.slice (some ⟨g,0,none⟩) (want.length+1) cap) (want++[E]).length (enc (want++[E]))):=by
            have e:enc (want++[E])=enc want++K.P.tD E:=by simp[enc]
            rw[Hid,e,zJ,bY];exact hown
           obtain⟨wv,hwv0⟩:∃ wv,Value.slice (some ⟨g,0,none⟩) (want.length+1) cap=wv:=⟨_,rfl⟩;rw[hwv0] at HOV0 ⊢;have HOV:=HOV0;clear hwv0 hown hgrow hat hglt HO5 HQ2 HQ3 HQ4 HQ5 HQ6 HQ7 c0 x0 y0 y5 HOV0 HKW hlt6;have y0:=(HB38.out 0 _ rfl).c;have y5:=(HB38.out 5 _ rfl).c;have HKN:Hid (i+2=2*(k+1)/\k+1<=ss.length/\((want++[E])).length<=k+1):=by have:=HK.out;refine⟨by omega,by omega,?_⟩;(try simp only[zJ,bY]);omega
           have hw2:IntKind.i64.wrap ((i:Int)+2)=(i:Int)+2:=by rw[bJ];have:=HK.out;omega
           have HZ:=HLK.out.1 (by first|rfl|trivial);have HZ1:Hid (z.err=0):=HZ.1;have HZ2:Hid (z.ents=(want++[E])):=HZ.2;have hsz:∀ e∈(want++[E]),e.2.1.size<=9223372036854775807:=(fun e he=>by simp only[zY,uI] at he;rcases he with he|rfl;exact HSZ.out e he;exact HEN.out);have HSZ':Hid (∀ e∈(want++[E]),e.2.1.size<=9223372036854775807):=hsz;obtain⟨wa,wc,hwv⟩:=K.P.aY HOV.out;obtain⟨nW,hnW⟩:∃ nW,((want++[E])).length=nW:=⟨_,rfl⟩;rw[hnW] at hwv;clear hnW;have HEV2:Hid (w8.ownsRow 0 53 5 (.slice la z.ents.length lc) z.ents.length (enc z.ents)):=gZ HEV.out (r:=none) ⟨HBV.out.os,HBV.out.tape,HBV.out.output,HBV.out.size,fun k hk _=>HBV.out.block k hk⟩ (fun g hg e=>by cases e);have kS:=K.P.tK w8.heap.size (.slice la z.ents.length lc) wv z.ents ((want++[E])) w8 (vQ _) (K.P.wG HEV2.out (by rw[HZ2.out];have:=HKN.out;omega) (by rw[HZ2.out];exact hsz)) (K.P.wG HOV.out (by have:=HKN.out;omega) hsz) true (by rw[HZ2.out];simp);have HOV':Hid (w8.ownsRow w6.heap.size 53 5 wv ((want++[E])).length (enc ((want++[E])))):=HOV.out;have qz:(z.err != 0)=false:=by rw[HZ1.out];rfl
           have qz2:(z.err == 0)=true:=by rw[HZ1.out];rfl
           subst hwv;clear HZ hsz HEV2;go_wp2_with fail;refine kS.mono ?_;rintro x9 w9 ⟨rfl,hb9⟩;have HB9:Hid (Below w6.heap.size w6 w9):=bt HBV.out hb9;have HO9:Hid (w9.ownsRow w6.heap.size 53 5 (.slice wa nW wc) ((want++[E])).length (enc ((want++[E])))):=gZ HOV'.out (r:=none) ⟨hb9.os,hb9.tape,hb9.output,hb9.size,fun k hk _=>hb9.block k hk⟩ (fun g hg e=>by cases e);clear kS hb9 HOV HOV' qz qz2;go_wp2
           go_roundw
           case rel=>exact⟨k+1,i+2,(want++[E]),true,true,by go_num,rfl,rfl,HKN,HB9,HRL',HO9,HSZ'⟩
           case measure=>have:=HK.out;simp[intOf];omega
          ·rw[qQ (fun h=>he0 h.2)] at hN
           have q0:(y.err == 0)=false:=by simpa using he0
           by_cases he6:y.err=6
           ·as_aux_lemma =>
            rw[xQ ⟨rfl,he6⟩] at hN;by_cases hln:z.ents.length=want.length+1
            ·rw[qQ (by simpa using hln)] at hN
             simp only[vX,cQ] at hN;obtain⟨rfl,rfl,rfl⟩:=hN;have q6:(y.err == 6)=true:=by simpa using he6
             obtain⟨E,hE⟩:∃ E,z.ents[want.length]? = some E:=⟨_,dZ (by omega)⟩;have hgd:z.ents.getD want.length (0,ByteArray.empty,0,0,0)=E:=by rw[List.getD_eq_getElem?_getD,hE];rfl
             rw[hgd] at HRL' HLK;have HEN:Hid (E.2.1.size<=9223372036854775807):=eaX HRL'.out.bok.1.1 E (by simp);have hevf:wf.ownsRow 0 53 5 (.slice la z.ents.length lc) z.ents.length (enc z.ents):=gZ HEV.out (r:=none) ⟨HBF.out.os,HBF.out.tape,HBF.out.output,HBF.out.size,fun k hk _=>HBF.out.block k hk⟩ (fun g hg e=>by cases e);rcases hevf.2 with⟨_,h0⟩|⟨gL,capL,curL,hvL,_,_,_⟩
             ·omega
             cases hvL
             have HRE:Hid (wf.rangeAt gL (want.length*5) [.int .i64 E.1,.string E.2.1,.int .i64 E.2.2.1,.int .i64 E.2.2.2.1,.int .i64 E.2.2.2.2]):=by
              have hg:=K.P.oC hE
              have hc:∀ {j:Nat} {u:Value},(enc z.ents)[j]? = some u->wf.cell? ⟨gL,j,none⟩=some u:=fun {j u} hj=>by
               have h3:=hevf.cells (g:=gL) rfl j u hj;have e:(⟨gL,0,none⟩:Addr).add j=⟨gL,j,none⟩:=by unfold Addr.add;split <;> simp_all
               rwa [e] at h3
              intro j v hj
              match j,hj with
              | 0,hj=>cases hj;exact hc hg.1
              | 1,hj=>cases hj;exact hc hg.2.1
              | 2,hj=>cases hj;exact hc hg.2.2.1
              | 3,hj=>cases hj;exact hc hg.2.2.2.1
              | 4,hj=>cases hj;exact hc hg.2.2.2.2
              | j+5,hj=>simp at hj
             obtain⟨wa0,wc0,hu13⟩:=K.P.aY HOF.out;subst hu13;have hwl:IntKind.i64.wrap ((want.length:Int)+1)=(want.length:Int)+1:=by rw[bJ];have:=HK.out;omega
             have q29:((z.ents.length:Int) != (want.length:Int)+1)=false:=by rw[hln];simp
             have q30:((z.ents.length:Int) == (want.length:Int)+1)=true:=by rw[hln];simp
             have hix:(want.length:Int)<(z.ents.length:Int):=by omega
             have hix2:want.length<z.ents.length:=by omega
             clear hev hask hY' hup hl0 hzz hA hnam HTO hE hgd hevf hln;have HO5:Hid ((wf.alloc (.cells #[.int .i64 E.1,.string E.2.1,.int .i64 E.2.2.1,.int .i64 E.2.2.2.1,.int .i64 E.2.2.2.2] 53)).ownsRow w6.heap.size 53 5 (.slice wa0 want.length wc0) want.length (enc want)):=HOF.out.alloc _
             have HQ2:Hid (∀ j u,([.int .i64 E.1,.string E.2.1,.int .i64 E.2.2.1,.int .i64 E.2.2.2.1,.int .i64 E.2.2.2.2]:List Value)[j]? = some u->(wf.alloc (.cells #[.int .i64 E.1,.string E.2.1,.int .i64 E.2.2.1,.int .i64 E.2.2.2.1,.int .i64 E.2.2.2.2] 53)).cell? ((⟨wf.heap.size,0,none⟩:Addr).add j)=some u):=by
              intro j u hj;have e:(⟨wf.heap.size,0,none⟩:Addr).add j=⟨wf.heap.size,j,none⟩:=by unfold Addr.add;split <;> simp_all
              rw[e];exact(Bx.new wf [.int .i64 E.1,.string E.2.1,.int .i64 E.2.2.1,.int .i64 E.2.2.2.1,.int .i64 E.2.2.2.2] 53 rfl j u hj).c
             have HQ3:Hid (∀ u∈([.int .i64 E.1,.string E.2.1,.int .i64 E.2.2.1,.int .i64 E.2.2.2.1,.int .i64 E.2.2.2.2]:List Value),u.oneCell' = true):=by
              intro u hu;simp only[yX,jJ,vJ] at hu;rcases hu with rfl|rfl|rfl|rfl|rfl <;> rfl
             have HQ4:Hid (want.length+1<=maxLen):=by have:=HK.out;show _<=_;unfold maxLen;omega
             have HQ5:Hid ((want.length+1)*48<=140737488355328):=by have:=HK.out;show _<=_;omega
             have HQ6:Hid (w6.heap.size<=(wf.alloc (.cells #[.int .i64 E.1,.string E.2.1,.int .i64 E.2.2.1,.int .i64 E.2.2.2.1,.int .i64 E.2.2.2.2] 53)).heap.size):=by have:=HBF.out.size;show _<=_;simp;omega
             have HQ7:Hid ((wf.alloc (.cells #[.int .i64 E.1,.string E.2.1,.int .i64 E.2.2.1,.int .i64 E.2.2.2.1,.int .i64 E.2.2.2.2] 53)).heap.size=wf.heap.size+1):=by show _=_;simp
             go_upto_region 31 with fail;clear q29 q30;refine jV ?_;go_step;go_step;go_step;go_step;go_step;go_step;go_step;go_step;go_step;go_step;go_step;go_step;go_step;go_step;go_step;go_step;go_step;go_step;refine yI rfl 53 _ rfl gL (want.length*5) rfl [.int .i64 E.1,.string E.2.1,.int .i64 E.2.2.1,.int .i64 E.2.2.2.1,.int .i64 E.2.2.2.2] _ HRE.out underlying53 rfl eaZ ?_;refine lY rfl 47 53 _ rfl wf.heap.size rfl _ rfl underlying47 (.agg #[.int .i64 E.1,.string E.2.1,.int .i64 E.2.2.1,.int .i64 E.2.2.2.1,.int .i64 E.2.2.2.2]) rfl #[.int .i64 E.1,.string E.2.1,.int .i64 E.2.2.1,.int .i64 E.2.2.2.1,.int .i64 E.2.2.2.2] (pC _ _ _ _ _) ?_;refine pY _ rfl _ _ 47 rfl w6.heap.size 53 i5 (.agg #[.int .i64 0,.string ⟨#[]⟩,.int .i64 0,.int .i64 0,.int .i64 0]) 5 48 underlying47 hi5 hz50 hz51 hz52 rfl (by decide) _ _ _ rfl HO5.out ⟨wf.heap.size,0,none⟩ 1 1 [.int .i64 E.1,.string E.2.1,.int .i64 E.2.2.1,.int .i64 E.2.2.2.1,.int .i64 E.2.2.2.2] rfl rfl HQ2.out HQ3.out (by decide) HQ4.out HQ5.out HQ6.out (wf.heap.size+1) HQ7.out ?_;intro g cap w8 hown hgrow hat hglt;have hlt6:=HBF.out.size
             have HBV:Hid (Below w6.heap.size w6 w8):=by
              refine⟨hgrow.os.trans HBF.out.os,hgrow.tape.trans HBF.out.tape,hgrow.output.trans HBF.out.output,uQ hlt6 (uQ (by simp) hgrow.size),fun k hk=>?_⟩;refine(hgrow.block k (by simp;omega) (fun e=>?_)).trans ((eV _ _ _ (by omega)).trans (HBF.out.block k hk));have:=(yZ HOW.out e.symm).1;omega
             have HKW:Hid (Keeps wf w8 (fun k=>(Value.slice wa0 want.length wc0).ownBlock=some k)):=⟨hgrow.os,hgrow.tape,hgrow.output,uQ (by simp) hgrow.size,fun k hk hn=>(hgrow.block k (by simp;omega) (fun e=>hn e.symm)).trans (eV _ _ _ hk)⟩;have HB38:Hid (Bx w8 b3 [.int .i64 z.err,.slice ta2 tn2 tc2,.int .i64 ux2,.int .i64 lux2,.int .i64 ldx2,.slice (some ⟨gL,0,none⟩) z.ents.length lc]):=HB3.out.kp HKW.out (fun e=>by have:=(yZ HOW.out e).2;have:=HGW.out;omega)
             have HOV0:Hid (w8.ownsRow w6.heap.size 53 5 (.slice (some ⟨g,0,none⟩) (want.length+1) cap) (want++[E]).length (enc (want++[E]))):=by
              have e:enc (want++[E])=enc want++K.P.tD E:=by simp[enc]
              rw[Hid,e,zJ,bY];exact hown
             obtain⟨wv,hwv0⟩:∃ wv,Value.slice (some ⟨g,0,none⟩) (want.length+1) cap=wv:=⟨_,rfl⟩;rw[hwv0] at HOV0 ⊢;have HOV:=HOV0;clear hwv0 hown hgrow hat hglt HO5 HQ2 HQ3 HQ4 HQ5 HQ6 HQ7 c0 x0 y0 y5 HOV0 HKW hlt6;have y0:=(HB38.out 0 _ rfl).c;have y5:=(HB38.out 5 _ rfl).c;have HKN:Hid (i+2=2*(k+1)/\k+1<=ss.length/\((want++[E])).length<=k+1):=by have:=HK.out;refine⟨by omega,by omega,?_⟩;(try simp only[zJ,bY]);omega
             have hw2:IntKind.i64.wrap ((i:Int)+2)=(i:Int)+2:=by rw[bJ];have:=HK.out;omega
             have HZ:=HLK.out.1 (by first|rfl|trivial);have HZ1:Hid (z.err=0):=HZ.1;have HZ2:Hid (z.ents=(want++[E])):=HZ.2;have hsz:∀ e∈(want++[E]),e.2.1.size<=9223372036854775807:=(fun e he=>by simp only[zY,uI] at he;rcases he with he|rfl;exact HSZ.out e he;exact HEN.out);have HSZ':Hid (∀ e∈(want++[E]),e.2.1.size<=9223372036854775807):=hsz;obtain⟨wa,wc,hwv⟩:=K.P.aY HOV.out;obtain⟨nW,hnW⟩:∃ nW,((want++[E])).length=nW:=⟨_,rfl⟩;rw[hnW] at hwv;clear hnW;have HEV2:Hid (w8.ownsRow 0 53 5 (.slice (some ⟨gL,0,none⟩) z.ents.length lc) z.ents.length (enc z.ents)):=gZ HEV.out (r:=none) ⟨HBV.out.os,HBV.out.tape,HBV.out.output,HBV.out.size,fun k hk _=>HBV.out.block k hk⟩ (fun g hg e=>by cases e);have kS:=K.P.tK w8.heap.size (.slice (some ⟨gL,0,none⟩) z.ents.length lc) wv z.ents ((want++[E])) w8 (vQ _) (K.P.wG HEV2.out (by rw[HZ2.out];have:=HKN.out;omega) (by rw[HZ2.out];exact hsz)) (K.P.wG HOV.out (by have:=HKN.out;omega) hsz) true (by rw[HZ2.out];simp);have HOV':Hid (w8.ownsRow w6.heap.size 53 5 wv ((want++[E])).length (enc ((want++[E])))):=HOV.out;have qz:(z.err != 0)=false:=by rw[HZ1.out];rfl
             have qz2:(z.err == 0)=true:=by rw[HZ1.out];rfl
             subst hwv;clear HZ hsz HEV2;go_wp2_with fail;refine kS.mono ?_;rintro x9 w9 ⟨rfl,hb9⟩;have HB9:Hid (Below w6.heap.size w6 w9):=bt HBV.out hb9;have HO9:Hid (w9.ownsRow w6.heap.size 53 5 (.slice wa nW wc) ((want++[E])).length (enc ((want++[E])))):=gZ HOV'.out (r:=none) ⟨hb9.os,hb9.tape,hb9.output,hb9.size,fun k hk _=>hb9.block k hk⟩ (fun g hg e=>by cases e);clear kS hb9 HOV HOV' qz qz2;go_wp2
             go_roundw
             case rel=>exact⟨k+1,i+2,(want++[E]),true,true,by go_num,rfl,rfl,HKN,HB9,HRL',HO9,HSZ'⟩
             case measure=>have:=HK.out;simp[intOf];omega
            ·rw[xQ hln] at hN
             cases hN
           ·rw[qQ (fun h=>he6 h.2)] at hN
            have q6:(y.err == 6)=false:=by simpa using he6
            by_cases he11:y.err=11
            ·as_aux_lemma =>
             rw[xQ ⟨rfl,he11⟩] at hN;simp only[vX,cQ] at hN;obtain⟨rfl,rfl,rfl⟩:=hN;have q11:(y.err == 11)=true:=by simpa using he11
             clear hev hask hY' hup hl0 hzz hA hnam HTO;have HBV:=HBF;have HOV:=HOF;have HKN:Hid (i+2=2*(k+1)/\k+1<=ss.length/\(want).length<=k+1):=by have:=HK.out;refine⟨by omega,by omega,?_⟩;(try simp only[zJ,bY]);omega
             have hw2:IntKind.i64.wrap ((i:Int)+2)=(i:Int)+2:=by rw[bJ];have:=HK.out;omega
             have HSZ':Hid (∀ e∈want,e.2.1.size<=9223372036854775807):=HSZ.out;have HZ1:Hid (z.err=9):=HLK.out.2 (by first|rfl|trivial) (by first|rfl|trivial);have qz:(z.err != 9)=false:=by rw[HZ1.out];rfl
             have qz2:(z.err == 9)=true:=by rw[HZ1.out];rfl
             go_wp2
             go_roundw
             case rel=>exact⟨k+1,i+2,want,true,false,by go_num,rfl,rfl,HKN,HBV,HRL',HOV,HSZ'⟩
             case measure=>have:=HK.out;simp[intOf];omega
            ·as_aux_lemma =>
             rw[qQ (fun h=>he11 h.2)] at hN;simp only[vX,cQ] at hN;obtain⟨rfl,rfl,rfl⟩:=hN;have q11:(y.err == 11)=false:=by simpa using he11
             clear hev hask hY' hup hl0 hzz hA hnam HTO;have HBV:=HBF;have HOV:=HOF;have HKN:Hid (i+2=2*(k+1)/\k+1<=ss.length/\(want).length<=k+1):=by have:=HK.out;refine⟨by omega,by omega,?_⟩;(try simp only[zJ,bY]);omega
             have hw2:IntKind.i64.wrap ((i:Int)+2)=(i:Int)+2:=by rw[bJ];have:=HK.out;omega
             have HZ:=HLK.out.1 (by first|rfl|trivial);have HZ1:Hid (z.err=0):=HZ.1;have HZ2:Hid (z.ents=want):=HZ.2;have hsz:∀ e∈want,e.2.1.size<=9223372036854775807:=HSZ.out;have HSZ':Hid (∀ e∈want,e.2.1.size<=9223372036854775807):=hsz;obtain⟨wa,wc,hwv⟩:=K.P.aY HOV.out;obtain⟨nW,hnW⟩:∃ nW,(want).length=nW:=⟨_,rfl⟩;rw[hnW] at hwv;clear hnW;have HEV2:Hid (wf.ownsRow 0 53 5 (.slice la z.ents.length lc) z.ents.length (enc z.ents)):=gZ HEV.out (r:=none) ⟨HBV.out.os,HBV.out.tape,HBV.out.output,HBV.out.size,fun k hk _=>HBV.out.block k hk⟩ (fun g hg e=>by cases e);have kS:=K.P.tK wf.heap.size (.slice la z.ents.length lc) u13 z.ents (want) wf (vQ _) (K.P.wG HEV2.out (by rw[HZ2.out];have:=HKN.out;omega) (by rw[HZ2.out];exact hsz)) (K.P.wG HOV.out (by have:=HKN.out;omega) hsz) true (by rw[HZ2.out];simp);have HOV':Hid (wf.ownsRow w6.heap.size 53 5 u13 (want).length (enc (want))):=HOV.out;have qz:(z.err != 0)=false:=by rw[HZ1.out];rfl
             have qz2:(z.err == 0)=true:=by rw[HZ1.out];rfl
             subst hwv;clear HZ hsz HEV2;go_wp2_with fail;refine kS.mono ?_;rintro x9 w9 ⟨rfl,hb9⟩;have HB9:Hid (Below w6.heap.size w6 w9):=bt HBV.out hb9;have HO9:Hid (w9.ownsRow w6.heap.size 53 5 (.slice wa nW wc) (want).length (enc (want))):=gZ HOV'.out (r:=none) ⟨hb9.os,hb9.tape,hb9.output,hb9.size,fun k hk _=>hb9.block k hk⟩ (fun g hg e=>by cases e);clear kS hb9 HOV HOV' qz qz2;go_wp2
             go_roundw
             case rel=>exact⟨k+1,i+2,want,true,true,by go_num,rfl,rfl,HKN,HB9,HRL',HO9,HSZ'⟩
             case measure=>have:=HK.out;simp[intOf];omega
         | false =>
          as_aux_lemma =>
          rw[qQ (fun h=>by cases h.1),qQ (fun h=>by cases h.1),qQ (fun h=>by cases h.1)] at hN;simp only[vX,cQ] at hN;obtain⟨rfl,rfl,rfl⟩:=hN;clear hev hask hY' hl0 hzz hA hnam HTO;have HBV:=HBF;have HOV:=HOF;have HKN:Hid (i+2=2*(k+1)/\k+1<=ss.length/\(want).length<=k+1):=by have:=HK.out;refine⟨by omega,by omega,?_⟩;(try simp only[zJ,bY]);omega
          have hw2:IntKind.i64.wrap ((i:Int)+2)=(i:Int)+2:=by rw[bJ];have:=HK.out;omega
          have HSZ':Hid (∀ e∈want,e.2.1.size<=9223372036854775807):=HSZ.out;cases op with
          | true =>
           have HZ1:Hid (z.err=9):=HLK.out.2 (by first|rfl|assumption|trivial) (by first|rfl|trivial);have qz:(z.err != 9)=false:=by rw[HZ1.out];rfl
           have qz2:(z.err == 9)=true:=by rw[HZ1.out];rfl
           go_wp2
           go_roundw
           case rel=>exact⟨k+1,i+2,want,true,false,by go_num,rfl,rfl,HKN,HBV,HRL',HOV,HSZ'⟩
           case measure=>have:=HK.out;simp[intOf];omega
          | false =>
           go_wp2
           go_roundw
           case rel=>exact⟨k+1,i+2,want,false,false,by go_num,rfl,rfl,HKN,HBV,HRL',HOV,HSZ'⟩
           case measure=>have:=HK.out;simp[intOf];omega
        as_aux_lemma =>
         have b1':(s.x.act == 1)=false:=by simpa using h1'
         have b2':(s.x.act == 2)=false:=by simpa using h2'
         have b3':(s.x.act == 3)=false:=by simpa using h3'
         have hN:=HN.out
         have hev:aV want op live y z (aJ l (K.rr rs) s.x)=some (want,op,live):=by
          unfold aJ;rw[qQ h1'];by_cases c4:s.x.act=4
          ·rw[xQ c4];rfl
          ·rw[qQ c4,qQ h2',qQ h3']
           split <;> rfl
         rw[hev] at hN;simp only[vX,cQ] at hN;obtain⟨rfl,rfl,rfl⟩:=hN;clear hev;have HBV:=HBF;have HOV:=HOF;cases hlv:live with
         | true =>
          subst hlv;have hop:op=true:=HRL.out.lv rfl;subst hop;have HKN:Hid (i+2=2*(k+1)/\k+1<=ss.length/\(want).length<=k+1):=by have:=HK.out;refine⟨by omega,by omega,?_⟩;(try simp only[zJ,bY]);omega
          have hw2:IntKind.i64.wrap ((i:Int)+2)=(i:Int)+2:=by rw[bJ];have:=HK.out;omega
          have HZ:=HLK.out.1 (by first|rfl|trivial);have HZ1:Hid (z.err=0):=HZ.1;have HZ2:Hid (z.ents=want):=HZ.2;have hsz:∀ e∈want,e.2.1.size<=9223372036854775807:=HSZ.out;have HSZ':Hid (∀ e∈want,e.2.1.size<=9223372036854775807):=hsz;obtain⟨wa,wc,hwv⟩:=K.P.aY HOV.out;obtain⟨nW,hnW⟩:∃ nW,(want).length=nW:=⟨_,rfl⟩;rw[hnW] at hwv;clear hnW;have HEV2:Hid (wf.ownsRow 0 53 5 (.slice la z.ents.length lc) z.ents.length (enc z.ents)):=gZ HEV.out (r:=none) ⟨HBV.out.os,HBV.out.tape,HBV.out.output,HBV.out.size,fun k hk _=>HBV.out.block k hk⟩ (fun g hg e=>by cases e);have kS:=K.P.tK wf.heap.size (.slice la z.ents.length lc) u13 z.ents (want) wf (vQ _) (K.P.wG HEV2.out (by rw[HZ2.out];have:=HKN.out;omega) (by rw[HZ2.out];exact hsz)) (K.P.wG HOV.out (by have:=HKN.out;omega) hsz) true (by rw[HZ2.out];simp);have HOV':Hid (wf.ownsRow w6.heap.size 53 5 u13 (want).length (enc (want))):=HOV.out;have qz:(z.err != 0)=false:=by rw[HZ1.out];rfl
          have qz2:(z.err == 0)=true:=by rw[HZ1.out];rfl
          subst hwv;clear HZ hsz HEV2;go_wp2_with fail;refine kS.mono ?_;rintro x9 w9 ⟨rfl,hb9⟩;have HB9:Hid (Below w6.heap.size w6 w9):=bt HBV.out hb9;have HO9:Hid (w9.ownsRow w6.heap.size 53 5 (.slice wa nW wc) (want).length (enc (want))):=gZ HOV'.out (r:=none) ⟨hb9.os,hb9.tape,hb9.output,hb9.size,fun k hk _=>hb9.block k hk⟩ (fun g hg e=>by cases e);clear kS hb9 HOV HOV' qz qz2;go_wp2
          go_roundw
          case rel=>exact⟨k+1,i+2,want,true,true,by go_num,rfl,rfl,HKN,HB9,HRL',HO9,HSZ'⟩
          case measure=>have:=HK.out;simp[intOf];omega
         | false =>
          subst hlv;have HKN:Hid (i+2=2*(k+1)/\k+1<=ss.length/\(want).length<=k+1):=by have:=HK.out;refine⟨by omega,by omega,?_⟩;(try simp only[zJ,bY]);omega
          have hw2:IntKind.i64.wrap ((i:Int)+2)=(i:Int)+2:=by rw[bJ];have:=HK.out;omega
          have HSZ':Hid (∀ e∈want,e.2.1.size<=9223372036854775807):=HSZ.out;cases op with
          | true =>
           have HZ1:Hid (z.err=9):=HLK.out.2 (by first|rfl|assumption|trivial) (by first|rfl|trivial);have qz:(z.err != 9)=false:=by rw[HZ1.out];rfl
           have qz2:(z.err == 9)=true:=by rw[HZ1.out];rfl
           go_wp2
           go_roundw
           case rel=>exact⟨k+1,i+2,want,true,false,by go_num,rfl,rfl,HKN,HBV,HRL',HOV,HSZ'⟩
           case measure=>have:=HK.out;simp[intOf];omega
          | false =>
           go_wp2
           go_roundw
           case rel=>exact⟨k+1,i+2,want,false,false,by go_num,rfl,rfl,HKN,HBV,HRL',HOV,HSZ'⟩
           case measure=>have:=HK.out;simp[intOf];omega
       ·as_aux_lemma =>
        have hlt:¬ (i:Int)+1<((2*ss.length:Nat):Int):=by have:=HK.out;omega
        have hlt2:¬ (i:Int)+1<2*(ss.length:Int):=by have:=HK.out;omega
        go_wp2;go_ret;exact⟨rfl,bt HBWW.out HBX.out⟩
 ·as_aux_lemma =>
  have q0:(er == 0)=false:=by simpa using h0
  have q1:(er != 0)=true:=by simpa using h0
  go_wp2;go_ret;exact⟨rfl,HBw2.out⟩
