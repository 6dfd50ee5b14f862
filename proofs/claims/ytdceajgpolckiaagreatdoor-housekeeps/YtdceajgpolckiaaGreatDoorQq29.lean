import Derived.Test.YtdceajgpolckiaaGreatDoorQq28
import Derived.Deep.RegionWith
open Go.Proofs.Tryz
set_option linter.unusedSimpArgs false
set_option maxHeartbeats 16000000
set_option maxRecDepth 100000
namespace Go.Proofs.YtdceajgpolckiaaGreatDoor
namespace K.P
open Go.RowKit K.Ds
def tH (bud al fp ls m:Rq) (there:Bool) (cnt:Nat) (part:Int):Int :=
 if part<0\/1073741824<part then 3 else if there=false/\64<=cnt then 5 else if (kQ fp ls).2=0 then dF bud al m else (kQ fp ls).2
def rB (w:World) (bud al:Rq) (n cnt:Nat) (there:Bool) (P:Int->Prop) (f:Int->Rq) (part:Int) (q:Rq) (er:Int):Ending->World->Prop:=fun x w' =>
 Below w.heap.size w w'/\((er≠0/\x=.returned (.tuple #[zp,.int .i64 er])) \/
  (er=0/\∃ b D,x=.returned (.tuple #[pv bud al b,.int .i64 0])/\w.heap.size<=b/\Pts w' b (n+1) D (fun y=>P y\/y=part) (fun y=>if y=part then q else f y)/\Maps.size D=if there then cnt else cnt+1))
theorem Pts.new (w:World)(f:Int->Rq):Pts (w.alloc (.map #[] 0)) w.heap.size 0 (.map []) (fun _=>False) f :=
 ⟨World.ownsMap_made _ _ _ _,fun z=>by simp[Maps.has],fun _ h=>h.elim,fun _ h=>h.elim⟩
theorem c0J (bud al ls fp:Rq)(bm n cnt:Nat)(D:DataW Value)(P:Int->Prop)(f:Int->Rq)(part:Int)(w:World)(hp:Pts w bm n D P f)(hn:n+1<=1048576)(hsz:Maps.size D=cnt)(hpr:0<=part/\part<=1073741824)(hth:P part)(hfp:f part=fp)(hof:tQ fp)(m:Rq)
  (ht:(kQ fp ls).2=0->Top (fun y=>if y=part then (kQ fp ls).1 else f y) (fun y=>P y\/y=part) m) (ha:tQ al) (hbu:tQ bud) (hls:tQ ls) (er:Int) (hr:tH bud al fp ls m true cnt part=er) :
  Calls prog 163 #[pv bud al bm,.int .i64 part,rvq ls] w (rB w bud al n cnt true P f part (kQ fp ls).1 er):=by
 have hbm:=hp.own.lt;have hr':(if true=false/\64<=cnt then 5 else if (kQ fp ls).2=0 then dF bud al m else (kQ fp ls).2)=er:=by rw[<-hr,tH,qQ (show ¬ (part<0\/1073741824<part) by omega)]
 clear hr;obtain⟨⟨q,e⟩,hm⟩:∃ y,kQ fp ls=y:=⟨_,rfl⟩;have kt:=oH fp.1 fp.2 ls.1 ls.2 q.1 q.2 e (by rw[nP,hm]);have HP:Hid (Pts w bm n D P f):=hp
 have hcase:(true=false/\64<=cnt/\er=5)\/(¬ (true=false/\64<=cnt)/\e=4/\er=4)\/(¬ (true=false/\64<=cnt)/\e=0/\tQ q/\dF bud al m=er):=by
  rw[hm] at hr';by_cases c:true=false/\64<=cnt
  ·rw[xQ c] at hr';exact .inl ⟨c.1,c.2,hr'.symm⟩
  rw[qQ c] at hr';rcases oK hof hls with⟨h1,h2,_⟩|h1
  ·rw[hm] at h1 h2
   simp only at h1 h2 hr';rw[xQ h1] at hr';exact .inr (.inr ⟨c,h1,h2,hr'⟩)
  ·rw[hm] at h1
   simp only[cQ] at h1;obtain⟨_,rfl⟩:=h1;right;left;exact⟨c,rfl,by simpa using hr'.symm⟩
 rw[hm] at ht;rw[hm];simp only at ht;clear hp hr' hm;obtain⟨w0,hw0⟩:∃ w0,((w.alloc (.cells #[.int .i64 bud.1,.int .i64 bud.2,.int .i64 al.1,.int .i64 al.2,.map (some bm)] 207)).alloc (.cells #[.int .i64 ls.1,.int .i64 ls.2] 32)).alloc (.cells #[.int .i64 0,.int .i64 0,.int .i64 0,.int .i64 0,.map none] 207)=w0:=⟨_,rfl⟩;have hz0:w0.heap.size=w.heap.size+1+1+1:=by rw[<-hw0];simp
 have B0:Below w.heap.size w w0:=by rw[<-hw0];exact bal (bal (ba _ _) _) _
 have V0:Hid (FivB w0 w.heap.size (.int .i64 bud.1) (.int .i64 bud.2) (.int .i64 al.1) (.int .i64 al.2) (.map (some bm))):=by rw[<-hw0];exact((FivB.new _ _ _ _ _ _ 207 _ rfl).below (ba _ _)).below (ba _ _)
 have V1:Hid (TwoB w0 (w.heap.size+1) (.int .i64 ls.1) (.int .i64 ls.2)):=by rw[<-hw0];exact(TwoB.new _ _ _ 32 _ (by simp)).below (ba _ _)
 have V2:Hid (FivB w0 (w.heap.size+1+1) (.int .i64 0) (.int .i64 0) (.int .i64 0) (.int .i64 0) (.map none)):=by rw[<-hw0];exact FivB.new _ _ _ _ _ _ 207 _ (by simp)
 have P0:Hid (Pts w0 bm n D P f):=HP.out.keep B0;have q1:¬ part<0:=by omega
 have q2:¬ 1073741824<part:=by omega
 have hlk:(Instr.lookup 205 (.map (some bm)) (.int .i64 part) true).run prog w0=.ok (.tuple #[rvq fp,.bool true]) w0:=by
  rcases P0.out.lookOk hpr with⟨h1,h2⟩|⟨h1,h2⟩
  ·rw[h2,hfp]
  ·exact absurd hth h1
 obtain⟨c0,c1,c2,c3,c4,f0,f1,f2,f3,f4,hl0⟩:=V0.out;obtain⟨l0,l1,lf0,lf1,hl1⟩:=V1.out;obtain⟨d0,d1,d2,d3,d4,g0,g1,g2,g3,g4,hl2⟩:=V2.out;go_enter func163,ntmps163;obtain⟨X,hX⟩:∃ X,w0.alloc (.cells #[.int .i64 fp.1,.int .i64 fp.2] 32)=X:=⟨_,rfl⟩;have BX:Below w0.heap.size w0 X:=by rw[<-hX];exact ba _ _
 have VX0:Hid (FivB X w.heap.size (.int .i64 bud.1) (.int .i64 bud.2) (.int .i64 al.1) (.int .i64 al.2) (.map (some bm))):=V0.out.below BX;have VX1:Hid (TwoB X (w.heap.size+1) (.int .i64 ls.1) (.int .i64 ls.2)):=V1.out.below BX;have VX2:Hid (FivB X (w.heap.size+1+1) (.int .i64 0) (.int .i64 0) (.int .i64 0) (.int .i64 0) (.map none)):=V2.out.below BX;have VX3:Hid (TwoB X (w.heap.size+1+1+1) (.int .i64 fp.1) (.int .i64 fp.2)):=by rw[<-hX];exact TwoB.new _ _ _ 32 _ hz0.symm
 have PX:Hid (Pts X bm n D P f):=P0.out.keep BX;have BwX:Below w.heap.size w X:=bt B0 BX;clear c0 c1 c2 c3 l0 l1 d0 d1 d2 d3 d4 lf0 lf1 f0 f1 f2 f3 f4 g0 g1 g2 g3 g4;obtain⟨x0,x1,x2,x3,x4,xf0,xf1,xf2,xf3,xf4,hlx0⟩:=VX0.out;obtain⟨l0,l1,lf0,lf1,hlx1⟩:=VX1.out;obtain⟨d0,d1,d2,d3,d4,g0,g1,g2,g3,g4,hlx2⟩:=VX2.out;obtain⟨t0,t1,tf0,tf1,hlx3⟩:=VX3.out;rcases hcase with⟨hca,hcb,rfl⟩|⟨hca,rfl,rfl⟩|⟨hca,rfl,hok,hck⟩
 ·cases hca
 ·go_wp2_with fail
  refine(kt _).mono ?_;rintro e2 w2 ⟨rfl,hb2⟩;have Bw2:=bt BwX hb2;obtain⟨m0,m1,m2,m3,m4,h0,h1,h2,h3,h4,hl5⟩:=VX2.out.below hb2;go_wp2_with fail;exact yQ (v:=.tuple #[zp,.int .i64 4]) (by simp[results,results163,go_sem,m0,m1,m2,m3,m4,hl5]) rfl ⟨bal (sV Bw2 (by omega) _ _ _ _ _) _,.inl ⟨by decide,rfl⟩⟩
 ·go_wp2_with fail
  refine(kt _).mono ?_;rintro e2 w2 ⟨rfl,hb2⟩;obtain⟨W3,hW3⟩:∃ W3,w2.alloc (.cells #[.int .i64 q.1,.int .i64 q.2] 32)=W3:=⟨_,rfl⟩;have B3:Below X.heap.size X W3:=by rw[<-hW3];exact bal hb2 _
  have T3:Hid (TwoB W3 w2.heap.size (.int .i64 q.1) (.int .i64 q.2)):=by rw[<-hW3];exact TwoB.new _ _ _ 32 _ rfl
  have P3:Hid (Pts W3 bm n D P f):=PX.out.keep B3;obtain⟨n0,n1,n2,n3,n4,nf0,nf1,nf2,nf3,nf4,hn0⟩:=VX0.out.below B3;go_wp2_with fail;refine(akQ hR bm n D _ P3.out.own).mono ?_;rintro e4 w4 ⟨rfl,hcl,hb4,hlt4⟩;have P4:Hid (Pts w4 W3.heap.size n D P f):=⟨hcl,P3.out.is,P3.out.el,P3.out.rng⟩;have V40:Hid (FivB w4 w.heap.size (.int .i64 bud.1) (.int .i64 bud.2) (.int .i64 al.1) (.int .i64 al.2) (.map (some bm))):=(VX0.out.below B3).below hb4;have hs3:=B3.size;have hs4:=hb4.size;have hsx:=BwX.size;obtain⟨Y,hY⟩:∃ Y,w4.setCell ⟨w.heap.size,4,none⟩ (.map (some W3.heap.size))=Y:=⟨_,rfl⟩;have gY:w4.grownBy Y (some w.heap.size):=by rw[<-hY];exact sQ (dX _ _) _ _
  have PY:Hid (Pts Y W3.heap.size n D P f):=P4.out.gb gY (by simp;omega);obtain⟨w5,hup,P5,g5⟩:=PY.out.put (by omega) hpr q
  have T5:TwoB Y w2.heap.size (.int .i64 q.1) (.int .i64 q.2):=by
   obtain⟨a1,a2,a3,a4,a5⟩:=T3.out.below hb4;have hk:Y.heap[w2.heap.size]? = w4.heap[w2.heap.size]?:=gY.block _ a5 (by have:=hb2.size;simp;omega);exact⟨(mZ (w:=w4) (a:=⟨w2.heap.size,0,none⟩) hk).trans a1,(mZ (w:=w4) (a:=⟨w2.heap.size,1,none⟩) hk).trans a2,(zV (w:=w4) (a:=⟨w2.heap.size,0,none⟩) hk).trans a3,(zV (w:=w4) (a:=⟨w2.heap.size,1,none⟩) hk).trans a4,qX a5 gY.size⟩
  have VY:Hid (FivB Y w.heap.size (.int .i64 bud.1) (.int .i64 bud.2) (.int .i64 al.1) (.int .i64 al.2) (.map (some W3.heap.size))):=by
   rw[<-hY];obtain⟨a0,a1,a2,a3,a4,b0,b1,b2,b3,b4,b5⟩:=V40.out;exact⟨(rQ (by simp)).trans a0,(rQ (by simp)).trans a1,(rQ (by simp)).trans a2,(rQ (by simp)).trans a3,jY a4,iZ.trans b0,iZ.trans b1,iZ.trans b2,iZ.trans b3,iZ.trans b4,by simpa using b5⟩
  have V5:Hid (FivB w5 w.heap.size (.int .i64 bud.1) (.int .i64 bud.2) (.int .i64 al.1) (.int .i64 al.2) (.map (some W3.heap.size))):=VY.out.gb g5 (by simp;omega);have R5:Hid (FivB w5 (w.heap.size+1+1) (.int .i64 0) (.int .i64 0) (.int .i64 0) (.int .i64 0) (.map none)):=((((VX2.out.below B3).below hb4).gb gY (by simp;omega)).gb g5 (by have:=hlx2;simp;omega));have B5:Below w.heap.size w w5:=((bt BwX (bt B3 hb4)).trans (iD gY (vQ _) (by omega))).trans (iD g5 (by omega) (by have:=gY.size;omega));obtain⟨tq0,tq1,_,_,tql⟩:=T5;obtain⟨z0,z1,z2,z3,z4,zf0,zf1,zf2,zf3,zf4,hz⟩:=V40.out;obtain⟨u0,u1,u2,u3,u4,uf0,uf1,uf2,uf3,uf4,hu⟩:=VY.out;obtain⟨v0,v1,v2,v3,v4,vf0,vf1,vf2,vf3,vf4,hv⟩:=V5.out;have kc:=fun W (hW:Pts W W3.heap.size (n+1) _ (fun y=>P y\/y=part) (fun y=>if y=part then q else f y))=>pB bud al W3.heap.size (n+1) (D.put (.int .i64 part) (.held (rvq q))) _ _ W hW (by omega) m (ht (by simp)) ha hbu er hck;have HP5:=P5
  have HSZ:Hid (Maps.size (D.put (.int .i64 part) (.held (rvq q)))=if true then cnt else cnt+1):=by
   rw[Hid,Maps.size_put (HP.out.own.tidy iI),hsz];rw[(HP.out.is part).2 hth]
  clear hck ht gY g5 hcl P5;by_cases her:er=0
  ·subst her
   simp only[↓reduceIte] at kc;go_wp2_with fail;refine(kc _ HP5).mono ?_;rintro e6 w6 ⟨rfl,hb6⟩;obtain⟨s0,s1,s2,s3,s4,sf0,sf1,sf2,sf3,sf4,hs⟩:=R5.out.below hb6;go_wp2_with fail;exact yQ (v:=.tuple #[pv bud al W3.heap.size,.int .i64 0]) (by simp[results,results163,go_sem,s0,s1,s2,s3,s4]) rfl ⟨sV (bt B5 hb6) (by omega) _ _ _ _ _,.inr ⟨rfl,W3.heap.size,_,rfl,by omega,(HP5.keep hb6).gb (sQ (sQ (sQ (sQ (sQ (dX _ _) _ _) _ _) _ _) _ _) _ _) (by have:=hlx2;simp;omega),HSZ.out⟩⟩
  ·simp only[her,↓reduceIte] at kc
   go_wp2_with fail;refine(kc _ HP5).mono ?_;rintro e6 w6 ⟨rfl,hb6⟩;obtain⟨s0,s1,s2,s3,s4,sf0,sf1,sf2,sf3,sf4,hs⟩:=R5.out.below hb6;go_wp2_with fail;exact yQ (v:=.tuple #[zp,.int .i64 er]) (by simp[results,results163,go_sem,s0,s1,s2,s3,s4]) rfl ⟨sV (bt B5 hb6) (by omega) _ _ _ _ _,.inl ⟨her,rfl⟩⟩
theorem c1Q (bud al ls fp:Rq)(bm n cnt:Nat)(D:DataW Value)(P:Int->Prop)(f:Int->Rq)(part:Int)(w:World)(hp:Pts w bm n D P f)(hn:n+1<=1048576)(hsz:Maps.size D=cnt)(hpr:0<=part/\part<=1073741824)(hth:¬ P part)(hfp:fp=bZ)(hof:tQ fp)(m:Rq)
  (ht:(kQ fp ls).2=0->Top (fun y=>if y=part then (kQ fp ls).1 else f y) (fun y=>P y\/y=part) m) (ha:tQ al) (hbu:tQ bud) (hls:tQ ls) (er:Int) (hr:tH bud al fp ls m false cnt part=er) :
  Calls prog 163 #[pv bud al bm,.int .i64 part,rvq ls] w (rB w bud al n cnt false P f part (kQ fp ls).1 er):=by
 have hbm:=hp.own.lt;have hr':(if false=false/\64<=cnt then 5 else if (kQ fp ls).2=0 then dF bud al m else (kQ fp ls).2)=er:=by rw[<-hr,tH,qQ (show ¬ (part<0\/1073741824<part) by omega)]
 clear hr;obtain⟨⟨q,e⟩,hm⟩:∃ y,kQ fp ls=y:=⟨_,rfl⟩;have kt:=oH 1 1 ls.1 ls.2 q.1 q.2 e (by subst hfp;have h0:=nP bZ ls;rw[hm] at h0;exact h0);have HP:Hid (Pts w bm n D P f):=hp
 have hcase:(false=false/\64<=cnt/\er=5)\/(¬ (false=false/\64<=cnt)/\e=4/\er=4)\/(¬ (false=false/\64<=cnt)/\e=0/\tQ q/\dF bud al m=er):=by
  rw[hm] at hr';by_cases c:false=false/\64<=cnt
  ·rw[xQ c] at hr';exact .inl ⟨c.1,c.2,hr'.symm⟩
  rw[qQ c] at hr';rcases oK hof hls with⟨h1,h2,_⟩|h1
  ·rw[hm] at h1 h2
   simp only at h1 h2 hr';rw[xQ h1] at hr';exact .inr (.inr ⟨c,h1,h2,hr'⟩)
  ·rw[hm] at h1
   simp only[cQ] at h1;obtain⟨_,rfl⟩:=h1;right;left;exact⟨c,rfl,by simpa using hr'.symm⟩
 rw[hm] at ht;rw[hm];simp only at ht;clear hp hr' hm;obtain⟨w0,hw0⟩:∃ w0,((w.alloc (.cells #[.int .i64 bud.1,.int .i64 bud.2,.int .i64 al.1,.int .i64 al.2,.map (some bm)] 207)).alloc (.cells #[.int .i64 ls.1,.int .i64 ls.2] 32)).alloc (.cells #[.int .i64 0,.int .i64 0,.int .i64 0,.int .i64 0,.map none] 207)=w0:=⟨_,rfl⟩;have hz0:w0.heap.size=w.heap.size+1+1+1:=by rw[<-hw0];simp
 have B0:Below w.heap.size w w0:=by rw[<-hw0];exact bal (bal (ba _ _) _) _
 have V0:Hid (FivB w0 w.heap.size (.int .i64 bud.1) (.int .i64 bud.2) (.int .i64 al.1) (.int .i64 al.2) (.map (some bm))):=by rw[<-hw0];exact((FivB.new _ _ _ _ _ _ 207 _ rfl).below (ba _ _)).below (ba _ _)
 have V1:Hid (TwoB w0 (w.heap.size+1) (.int .i64 ls.1) (.int .i64 ls.2)):=by rw[<-hw0];exact(TwoB.new _ _ _ 32 _ (by simp)).below (ba _ _)
 have V2:Hid (FivB w0 (w.heap.size+1+1) (.int .i64 0) (.int .i64 0) (.int .i64 0) (.int .i64 0) (.map none)):=by rw[<-hw0];exact FivB.new _ _ _ _ _ _ 207 _ (by simp)
 have P0:Hid (Pts w0 bm n D P f):=HP.out.keep B0;have q1:¬ part<0:=by omega
 have q2:¬ 1073741824<part:=by omega
 have hlk:(Instr.lookup 205 (.map (some bm)) (.int .i64 part) true).run prog w0=.ok (.tuple #[rv 0 0,.bool false]) w0:=by
  rcases P0.out.lookOk hpr with⟨h1,h2⟩|⟨h1,h2⟩
  ·exact absurd h1 hth
  ·exact h2
 obtain⟨c0,c1,c2,c3,c4,f0,f1,f2,f3,f4,hl0⟩:=V0.out;obtain⟨l0,l1,lf0,lf1,hl1⟩:=V1.out;obtain⟨d0,d1,d2,d3,d4,g0,g1,g2,g3,g4,hl2⟩:=V2.out;go_enter func163,ntmps163;go_wp2_with fail;refine(akJ _).mono ?_;rintro e1 w1 ⟨rfl,hb1⟩;have hz1:w0.heap.size<w1.heap.size:=by have:=hb1.size;simp at this;omega
 have BY:Below w0.heap.size w0 w1:=bt (ba _ _) hb1;have VY3:TwoB w1 (w.heap.size+1+1+1) (.int .i64 0) (.int .i64 0):=(TwoB.new _ _ _ 32 _ hz0.symm).below hb1;obtain⟨y0,y1,yf0,yf1,hy⟩:=VY3;obtain⟨X,hX⟩:∃ X,(w1.setCell ⟨w.heap.size+1+1+1,0,none⟩ (.int .i64 1)).setCell ⟨w.heap.size+1+1+1,1,none⟩ (.int .i64 1)=X:=⟨_,rfl⟩;have BX:Below w0.heap.size w0 X:=by rw[<-hX];exact bs (bs BY (by simp;omega) _) (by simp;omega) _
 have VX0:Hid (FivB X w.heap.size (.int .i64 bud.1) (.int .i64 bud.2) (.int .i64 al.1) (.int .i64 al.2) (.map (some bm))):=V0.out.below BX;have VX1:Hid (TwoB X (w.heap.size+1) (.int .i64 ls.1) (.int .i64 ls.2)):=V1.out.below BX;have VX2:Hid (FivB X (w.heap.size+1+1) (.int .i64 0) (.int .i64 0) (.int .i64 0) (.int .i64 0) (.map none)):=V2.out.below BX;have VX3:Hid (TwoB X (w.heap.size+1+1+1) (.int .i64 1) (.int .i64 1)):=by rw[<-hX];exact TwoB.put ⟨y0,y1,yf0,yf1,hy⟩ _ _
 have PX:Hid (Pts X bm n D P f):=P0.out.keep BX;have BwX:Below w.heap.size w X:=bt B0 BX;have hlen:=PX.out.own.len underlying205 3;rw[hsz] at hlen;have hsb:cnt<=1048576:=by rw[<-hsz];exact uQ HP.out.own.size_le (by omega)
 clear c0 c1 c2 c3 l0 l1 d0 d1 d2 d3 d4 lf0 lf1 f0 f1 f2 f3 f4 g0 g1 g2 g3 g4;obtain⟨x0,x1,x2,x3,x4,xf0,xf1,xf2,xf3,xf4,hlx0⟩:=VX0.out;obtain⟨l0,l1,lf0,lf1,hlx1⟩:=VX1.out;obtain⟨d0,d1,d2,d3,d4,g0,g1,g2,g3,g4,hlx2⟩:=VX2.out;obtain⟨t0,t1,tf0,tf1,hlx3⟩:=VX3.out;rcases hcase with⟨hca,hcb,rfl⟩|⟨hca,rfl,rfl⟩|⟨hca,rfl,hok,hck⟩
 ·have hcb':decide ((64:Int)<=(cnt:Int))=true:=vG (by omega)
  go_wp2_with fail;exact yQ (v:=.tuple #[zp,.int .i64 5]) (by simp[results,results163,go_sem,d0,d1,d2,d3,d4]) rfl ⟨sV BwX (by omega) _ _ _ _ _,.inl ⟨by decide,rfl⟩⟩
 ·have hcb':decide ((64:Int)<=(cnt:Int))=false:=nV (by simp at hca;omega)
  go_wp2_with fail;refine(kt _).mono ?_;rintro e2 w2 ⟨rfl,hb2⟩;have Bw2:=bt BwX hb2;obtain⟨m0,m1,m2,m3,m4,h0,h1,h2,h3,h4,hl5⟩:=VX2.out.below hb2;go_wp2_with fail;exact yQ (v:=.tuple #[zp,.int .i64 4]) (by simp[results,results163,go_sem,m0,m1,m2,m3,m4,hl5]) rfl ⟨bal (sV Bw2 (by omega) _ _ _ _ _) _,.inl ⟨by decide,rfl⟩⟩
 ·have hcb':decide ((64:Int)<=(cnt:Int))=false:=nV (by simp at hca;omega)
  go_wp2_with fail;refine(kt _).mono ?_;rintro e2 w2 ⟨rfl,hb2⟩;obtain⟨W3,hW3⟩:∃ W3,w2.alloc (.cells #[.int .i64 q.1,.int .i64 q.2] 32)=W3:=⟨_,rfl⟩;have B3:Below X.heap.size X W3:=by rw[<-hW3];exact bal hb2 _
  have T3:Hid (TwoB W3 w2.heap.size (.int .i64 q.1) (.int .i64 q.2)):=by rw[<-hW3];exact TwoB.new _ _ _ 32 _ rfl
  have P3:Hid (Pts W3 bm n D P f):=PX.out.keep B3;obtain⟨n0,n1,n2,n3,n4,nf0,nf1,nf2,nf3,nf4,hn0⟩:=VX0.out.below B3;go_wp2_with fail;refine(akQ hR bm n D _ P3.out.own).mono ?_;rintro e4 w4 ⟨rfl,hcl,hb4,hlt4⟩;have P4:Hid (Pts w4 W3.heap.size n D P f):=⟨hcl,P3.out.is,P3.out.el,P3.out.rng⟩;have V40:Hid (FivB w4 w.heap.size (.int .i64 bud.1) (.int .i64 bud.2) (.int .i64 al.1) (.int .i64 al.2) (.map (some bm))):=(VX0.out.below B3).below hb4;have hs3:=B3.size;have hs4:=hb4.size;have hsx:=BwX.size;obtain⟨Y,hY⟩:∃ Y,w4.setCell ⟨w.heap.size,4,none⟩ (.map (some W3.heap.size))=Y:=⟨_,rfl⟩;have gY:w4.grownBy Y (some w.heap.size):=by rw[<-hY];exact sQ (dX _ _) _ _
  have PY:Hid (Pts Y W3.heap.size n D P f):=P4.out.gb gY (by simp;omega);obtain⟨w5,hup,P5,g5⟩:=PY.out.put (by omega) hpr q
  have T5:TwoB Y w2.heap.size (.int .i64 q.1) (.int .i64 q.2):=by
   obtain⟨a1,a2,a3,a4,a5⟩:=T3.out.below hb4;have hk:Y.heap[w2.heap.size]? = w4.heap[w2.heap.size]?:=gY.block _ a5 (by have:=hb2.size;simp;omega);exact⟨(mZ (w:=w4) (a:=⟨w2.heap.size,0,none⟩) hk).trans a1,(mZ (w:=w4) (a:=⟨w2.heap.size,1,none⟩) hk).trans a2,(zV (w:=w4) (a:=⟨w2.heap.size,0,none⟩) hk).trans a3,(zV (w:=w4) (a:=⟨w2.heap.size,1,none⟩) hk).trans a4,qX a5 gY.size⟩
  have VY:Hid (FivB Y w.heap.size (.int .i64 bud.1) (.int .i64 bud.2) (.int .i64 al.1) (.int .i64 al.2) (.map (some W3.heap.size))):=by
   rw[<-hY];obtain⟨a0,a1,a2,a3,a4,b0,b1,b2,b3,b4,b5⟩:=V40.out;exact⟨(rQ (by simp)).trans a0,(rQ (by simp)).trans a1,(rQ (by simp)).trans a2,(rQ (by simp)).trans a3,jY a4,iZ.trans b0,iZ.trans b1,iZ.trans b2,iZ.trans b3,iZ.trans b4,by simpa using b5⟩
  have V5:Hid (FivB w5 w.heap.size (.int .i64 bud.1) (.int .i64 bud.2) (.int .i64 al.1) (.int .i64 al.2) (.map (some W3.heap.size))):=VY.out.gb g5 (by simp;omega);have R5:Hid (FivB w5 (w.heap.size+1+1) (.int .i64 0) (.int .i64 0) (.int .i64 0) (.int .i64 0) (.map none)):=((((VX2.out.below B3).below hb4).gb gY (by simp;omega)).gb g5 (by have:=hlx2;simp;omega));have B5:Below w.heap.size w w5:=((bt BwX (bt B3 hb4)).trans (iD gY (vQ _) (by omega))).trans (iD g5 (by omega) (by have:=gY.size;omega));obtain⟨tq0,tq1,_,_,tql⟩:=T5;obtain⟨z0,z1,z2,z3,z4,zf0,zf1,zf2,zf3,zf4,hz⟩:=V40.out;obtain⟨u0,u1,u2,u3,u4,uf0,uf1,uf2,uf3,uf4,hu⟩:=VY.out;obtain⟨v0,v1,v2,v3,v4,vf0,vf1,vf2,vf3,vf4,hv⟩:=V5.out;have kc:=fun W (hW:Pts W W3.heap.size (n+1) _ (fun y=>P y\/y=part) (fun y=>if y=part then q else f y))=>pB bud al W3.heap.size (n+1) (D.put (.int .i64 part) (.held (rvq q))) _ _ W hW (by omega) m (ht (by simp)) ha hbu er hck;have HP5:=P5
  have HSZ:Hid (Maps.size (D.put (.int .i64 part) (.held (rvq q)))=if false then cnt else cnt+1):=by
   rw[Hid,Maps.size_put (HP.out.own.tidy iI),hsz];rw[show Maps.has D (.int .i64 part)=false from by cases h:Maps.has D (.int .i64 part) with|false=>rfl|true=>exact absurd ((HP.out.is part).1 h) hth]
  clear hck ht gY g5 hcl P5;by_cases her:er=0
  ·subst her
   simp only[↓reduceIte] at kc;go_wp2_with fail;refine(kc _ HP5).mono ?_;rintro e6 w6 ⟨rfl,hb6⟩;obtain⟨s0,s1,s2,s3,s4,sf0,sf1,sf2,sf3,sf4,hs⟩:=R5.out.below hb6;go_wp2_with fail;exact yQ (v:=.tuple #[pv bud al W3.heap.size,.int .i64 0]) (by simp[results,results163,go_sem,s0,s1,s2,s3,s4]) rfl ⟨sV (bt B5 hb6) (by omega) _ _ _ _ _,.inr ⟨rfl,W3.heap.size,_,rfl,by omega,(HP5.keep hb6).gb (sQ (sQ (sQ (sQ (sQ (dX _ _) _ _) _ _) _ _) _ _) _ _) (by have:=hlx2;simp;omega),HSZ.out⟩⟩
  ·simp only[her,↓reduceIte] at kc
   go_wp2_with fail;refine(kc _ HP5).mono ?_;rintro e6 w6 ⟨rfl,hb6⟩;obtain⟨s0,s1,s2,s3,s4,sf0,sf1,sf2,sf3,sf4,hs⟩:=R5.out.below hb6;go_wp2_with fail;exact yQ (v:=.tuple #[zp,.int .i64 er]) (by simp[results,results163,go_sem,s0,s1,s2,s3,s4]) rfl ⟨sV (bt B5 hb6) (by omega) _ _ _ _ _,.inl ⟨her,rfl⟩⟩
theorem c1X (w:World):Calls prog 168 #[] w fun e w'=>e=.returned (rv 1 1)/\w' = w.alloc (.cells #[.int .i64 1,.int .i64 1] 32):=by
 go_enter func168,ntmps168;go_wp2;exact yQ (v:=rv 1 1) (by simp[results,results168,go_sem]) rfl ⟨rfl,rfl⟩
theorem Pts.new' (w:World)(f:Int->Rq)(N:Nat)(hN:N=w.heap.size):Pts (w.alloc (.map #[] 0)) N 0 (.map []) (fun _=>False) f:=by subst hN;exact Pts.new w f
theorem c1Z (bud:Rq)(f:Int->Rq)(w:World):Calls prog 164 #[rvq bud] w fun x w'=>∃ b,x=.returned (pv bud bZ b)/\Below w.heap.size w w'/\w.heap.size<=b/\Pts w' b 0 (.map []) (fun _=>False) f:=by
 have hmm:=@run_makeMap prog;go_enter func164,ntmps164;go_wp2_with fail
 go_region_with (go_at_call 168;refine(c1X _).mono ?_;rintro e w' ⟨rfl,rfl⟩)
 all_goals go_wp2_with fail
 all_goals first
  | exact yQ (v:=pv bud bZ (w.heap.size+1+1+1)) (by simp[results,results164,go_sem,bZ]) rfl ⟨_,rfl,Below.drew (bal (bal (bal (ba _ _) _) _) _),by omega,(Pts.new' _ f (w.heap.size+1+1+1) (by simp)).gb (fJ (dX _ none)) (by simp)⟩
  | exact yQ (v:=pv bud bZ (w.heap.size+1+1)) (by simp[results,results164,go_sem,bZ]) rfl ⟨_,rfl,Below.drew (bal (bal (bal (ba _ _) _) _) _),by omega,((Pts.new' _ f (w.heap.size+1+1) (by simp)).keep (ba _ _)).gb (fJ (dX _ none)) (by simp)⟩
theorem aR (s:ByteArray)(hs:s.size<=9223372036854775807)(w:World)(r:Bool)(hr:eZ s.data.toList=r):Calls prog 161 #[.string s] w fun e w'=>e=.returned (.bool r)/\Below w.heap.size w w':=by
 have HC:Hid (eQ (w.alloc (.cells #[.string s,.int .i64 1] 82)) (w.heap.size+1) (.slice (some ⟨w.heap.size,0,none⟩) 1 1) [(s,1)]):=⟨_,1,rfl,vQ _,by simp,by simpa using hs,fun _=>⟨w.heap.size,0,rfl,by omega,fun i x hi=>by
  obtain⟨rfl,rfl⟩:i=0/\x=(s,1):=by
   cases i with
   | zero=>simpa using hi.symm
   | succ i=>simp at hi
  exact⟨nc _ _ 0 _ rfl rfl,nc _ _ 1 _ rfl rfl⟩⟩⟩
 have hE:yV [(s,1)]=if r then 0 else 2:=by
  unfold yV;rw[qQ (by simp)]
  have:rZ [] [(s,1)]=if r then 0 else 2:=by
   cases r <;> simp[rZ,hr]
  rw[this];cases r <;> simp[prd]
 cases r with
 | true =>
  have kc:=fun W h=>uP (w.heap.size+1) (.slice (some ⟨w.heap.size,0,none⟩) 1 1) [(s,1)] W h (er:=0);go_enter func161,ntmps161;go_wp2_with fail;refine(kc _ (by simp) HC.out (by simpa using hE)).mono ?_;rintro e w1 ⟨rfl,hb1⟩;go_wp2_with fail;go_ret;exact⟨rfl,bt (ba _ _) hb1⟩
 | false =>
  have kc:=fun W h=>uP (w.heap.size+1) (.slice (some ⟨w.heap.size,0,none⟩) 1 1) [(s,1)] W h (er:=2);go_enter func161,ntmps161;go_wp2_with fail;refine(kc _ (by simp) HC.out (by simpa using hE)).mono ?_;rintro e w1 ⟨rfl,hb1⟩;go_wp2_with fail;go_ret;exact⟨rfl,bt (ba _ _) hb1⟩
abbrev ev (e:En):Value:=.agg #[.int .i64 e.1,.string e.2.1,.int .i64 e.2.2.1,.int .i64 e.2.2.2.1,.int .i64 e.2.2.2.2]
theorem c1J (e:En)(hs:e.2.1.size<=281474976710656)(w:World):Calls prog 107 #[ev e] w fun x w'=>x=.returned (ev (nrm e))/\Below w.heap.size w w':=by
 obtain⟨d,nm,p,u,v⟩:=e;simp only at hs;have kc:=fun W=>akX nm W hs;by_cases h3:d=3
 ·subst h3
  rw[show nrm (3,nm,p,u,v)=(3,nm,p,u,v) from rfl];have V0:Hid (FivB ((w.alloc (.cells #[.int .i64 3,.string nm,.int .i64 p,.int .i64 u,.int .i64 v] 53)).alloc (.cells #[.int .i64 0,.string ⟨#[]⟩,.int .i64 0,.int .i64 0,.int .i64 0] 53)) w.heap.size (.int .i64 3) (.string nm) (.int .i64 p) (.int .i64 u) (.int .i64 v)):=(FivB.new _ _ _ _ _ _ 53 _ rfl).below (ba _ _);have V1:Hid (FivB ((w.alloc (.cells #[.int .i64 3,.string nm,.int .i64 p,.int .i64 u,.int .i64 v] 53)).alloc (.cells #[.int .i64 0,.string ⟨#[]⟩,.int .i64 0,.int .i64 0,.int .i64 0] 53)) (w.heap.size+1) (.int .i64 0) (.string ⟨#[]⟩) (.int .i64 0) (.int .i64 0) (.int .i64 0)):=FivB.new _ _ _ _ _ _ 53 _ (by simp);go_enter func107,ntmps107;go_wp2_with fail;refine(kc _).mono ?_;rintro e1 w1 ⟨rfl,hb1⟩;obtain⟨c0,c1,c2,c3,c4,f0,f1,f2,f3,f4,hl0⟩:=V0.out.below hb1;obtain⟨d0,d1,d2,d3,d4,g0,g1,g2,g3,g4,hl1⟩:=V1.out.below hb1;go_wp2_with fail;exact yQ (v:=ev (3,nm,p,u,v)) (by simp[results,results107,go_sem,d0,d1,d2,d3,d4]) rfl ⟨rfl,sV (bs (bt (bal (ba _ _) _) hb1) (vQ _) _) (by omega) _ _ _ _ _⟩
 ·rw[show nrm (d,nm,p,u,v)=(d,nm,0,u,v) from by simp[nrm,h3]]
  have hq:(d != 3)=true:=by simpa using h3
  have V0:Hid (FivB ((w.alloc (.cells #[.int .i64 d,.string nm,.int .i64 0,.int .i64 u,.int .i64 v] 53)).alloc (.cells #[.int .i64 0,.string ⟨#[]⟩,.int .i64 0,.int .i64 0,.int .i64 0] 53)) w.heap.size (.int .i64 d) (.string nm) (.int .i64 0) (.int .i64 u) (.int .i64 v)):=(FivB.new _ _ _ _ _ _ 53 _ rfl).below (ba _ _);have V1:Hid (FivB ((w.alloc (.cells #[.int .i64 d,.string nm,.int .i64 0,.int .i64 u,.int .i64 v] 53)).alloc (.cells #[.int .i64 0,.string ⟨#[]⟩,.int .i64 0,.int .i64 0,.int .i64 0] 53)) (w.heap.size+1) (.int .i64 0) (.string ⟨#[]⟩) (.int .i64 0) (.int .i64 0) (.int .i64 0)):=FivB.new _ _ _ _ _ _ 53 _ (by simp);go_enter func107,ntmps107;go_wp2_with fail;refine(kc _).mono ?_;rintro e1 w1 ⟨rfl,hb1⟩;obtain⟨c0,c1,c2,c3,c4,f0,f1,f2,f3,f4,hl0⟩:=V0.out.below hb1;obtain⟨d0,d1,d2,d3,d4,g0,g1,g2,g3,g4,hl1⟩:=V1.out.below hb1;go_wp2_with fail;exact yQ (v:=ev (d,nm,0,u,v)) (by simp[results,results107,go_sem,d0,d1,d2,d3,d4]) rfl ⟨rfl,sV (bs (bt (bal (ba _ _) _) hb1) (vQ _) _) (by omega) _ _ _ _ _⟩
theorem c2Q (e:En):(¬ (e.1=1\/e.1=2\/e.1=3)/\sZ e=1)\/((e.1=1\/e.1=2\/e.1=3)/\((eZ e.2.1.data.toList=false/\sZ e=2)\/(eZ e.2.1.data.toList=true/\Rt.fQ e.2.2.2.1 e.2.2.2.2=false/\sZ e=2) \/
  (eZ e.2.1.data.toList=true/\Rt.fQ e.2.2.2.1 e.2.2.2.2=true/\e.2.2.2.1<e.2.2.2.2/\sZ e=3)\/(eZ e.2.1.data.toList=true/\Rt.fQ e.2.2.2.1 e.2.2.2.2=true/\¬ e.2.2.2.1<e.2.2.2.2/\sZ e=0))):=by
 unfold sZ;by_cases c:e.1<1\/3<e.1
 ·left;exact⟨by omega,by rw[xQ c]⟩
 right;rw[qQ c];refine⟨by omega,?_⟩;cases hn:eZ e.2.1.data.toList with
 | false=>left;simp
 | true =>
  right;cases hr:Rt.fQ e.2.2.2.1 e.2.2.2.2 with
  | false=>left;simp
  | true =>
   right;by_cases c2:e.2.2.2.1<e.2.2.2.2
   ·left;simp[c2]
   ·right;simp[c2]
theorem fI (e:En)(hs:e.2.1.size<=9223372036854775807)(w:World)(er:Int)(hr:sZ e=er):Calls prog 105 #[ev e] w fun x w'=>x=.returned (.int .i64 er)/\Below w.heap.size w w':=by
 obtain⟨d,nm,p,u,v⟩:=e;have hb:=c2Q (d,nm,p,u,v);rw[hr] at hb;clear hr;simp only at hb hs;rcases hb with⟨h0,rfl⟩|⟨h0,hb⟩
 ·have q1:(d != 1)=true:=by simp;omega
  have q2:(d != 2)=true:=by simp;omega
  have q3:(d != 3)=true:=by simp;omega
  go_enter func105,ntmps105;go_wp2;go_ret;exact⟨rfl,ba _ _⟩
 ·rcases hb with⟨h1,rfl⟩|⟨h1,h2,rfl⟩|⟨h1,h2,h3,rfl⟩|⟨h1,h2,h3,rfl⟩
  ·have kn:=fun W=>aR nm hs W false h1
   clear h1;rcases h0 with rfl|rfl|rfl
   all_goals
    go_enter func105,ntmps105;go_wp2_with fail;refine(kn _).mono ?_;rintro e1 w1 ⟨rfl,hb1⟩;go_wp2_with fail;go_ret;exact⟨rfl,bt (ba _ _) hb1⟩
  ·have kn:=fun W=>aR nm hs W true h1
   have kr:=fun W=>vY u v false h2 W;clear h1 h2;have V0:Hid (FivB (w.alloc (.cells #[.int .i64 d,.string nm,.int .i64 p,.int .i64 u,.int .i64 v] 53)) w.heap.size (.int .i64 d) (.string nm) (.int .i64 p) (.int .i64 u) (.int .i64 v)):=FivB.new _ _ _ _ _ _ 53 _ rfl;rcases h0 with rfl|rfl|rfl
   all_goals
    go_enter func105,ntmps105;go_wp2_with fail;refine(kn _).mono ?_;rintro e1 w1 ⟨rfl,hb1⟩;obtain⟨c0,c1,c2,c3,c4,f0,f1,f2,f3,f4,hl0⟩:=V0.out.below hb1;go_wp2_with fail;refine(kr _).mono ?_;rintro e2 w2 ⟨rfl,hb2⟩;go_wp2_with fail;go_ret;exact⟨rfl,bt (bt (ba _ _) hb1) hb2⟩
  ·have kn:=fun W=>aR nm hs W true h1
   have kr:=fun W=>vY u v true h2 W;clear h1 h2;have V0:Hid (FivB (w.alloc (.cells #[.int .i64 d,.string nm,.int .i64 p,.int .i64 u,.int .i64 v] 53)) w.heap.size (.int .i64 d) (.string nm) (.int .i64 p) (.int .i64 u) (.int .i64 v)):=FivB.new _ _ _ _ _ _ 53 _ rfl;rcases h0 with rfl|rfl|rfl
   all_goals
    go_enter func105,ntmps105;go_wp2_with fail;refine(kn _).mono ?_;rintro e1 w1 ⟨rfl,hb1⟩;obtain⟨c0,c1,c2,c3,c4,f0,f1,f2,f3,f4,hl0⟩:=V0.out.below hb1;go_wp2_with fail;refine(kr _).mono ?_;rintro e2 w2 ⟨rfl,hb2⟩;obtain⟨d0,d1,d2,d3,d4,g0,g1,g2,g3,g4,hl1⟩:=(V0.out.below hb1).below hb2;go_wp2_with fail;go_ret;exact⟨rfl,bt (bt (ba _ _) hb1) hb2⟩
  ·have kn:=fun W=>aR nm hs W true h1
   have kr:=fun W=>vY u v true h2 W;clear h1 h2;have V0:Hid (FivB (w.alloc (.cells #[.int .i64 d,.string nm,.int .i64 p,.int .i64 u,.int .i64 v] 53)) w.heap.size (.int .i64 d) (.string nm) (.int .i64 p) (.int .i64 u) (.int .i64 v)):=FivB.new _ _ _ _ _ _ 53 _ rfl;rcases h0 with rfl|rfl|rfl
   all_goals
    go_enter func105,ntmps105;go_wp2_with fail;refine(kn _).mono ?_;rintro e1 w1 ⟨rfl,hb1⟩;obtain⟨c0,c1,c2,c3,c4,f0,f1,f2,f3,f4,hl0⟩:=V0.out.below hb1;go_wp2_with fail;refine(kr _).mono ?_;rintro e2 w2 ⟨rfl,hb2⟩;obtain⟨d0,d1,d2,d3,d4,g0,g1,g2,g3,g4,hl1⟩:=(V0.out.below hb1).below hb2;go_wp2_with fail;go_ret;exact⟨rfl,bt (bt (ba _ _) hb1) hb2⟩
open Go.WideMaps (keyOf_string_mk)
theorem sN {done:List En}{e:En}(hb:sZ e=0)(hl:done.length<4096):cZ done e=match fX done e.2.1 with
 | none=>if e.1=1 then (if 64<=(aA done).length then 5 else 0) else 7
 | some b=>if e.1=1 then 7 else
  if e.1=3/\(e.2.2.1<0\/1073741824<e.2.2.1) then 3 else
  if e.1=3/\64<(pZ (done++[e]) e.2.1).length then 5 else
  if (yJ (done++[e]) e.2.1).2≠0 then (yJ (done++[e]) e.2.1).2 else if sX (yJ (done++[e]) e.2.1).1 b then 0 else 10:=by
 unfold cZ;rw[qQ (by omega),qQ (by omega)];cases fX done e.2.1 <;> rfl
theorem alZ (s:Rq × Int)(b al m:Rq)(h:s=kQ al m):(if s.2≠0 then s.2 else if sX s.1 b then 0 else 10)=dF b al m:=by
 subst h;unfold dF;by_cases c:(kQ al m).2=0 <;> simp[c]
theorem c2X {done:List En}(h:Inv done){e:En}(hb:sZ e=0)(hl:done.length<4096)(he:e.1=2){b:Rq}(hbud:fX done e.2.1=some b) :
  cZ done e=cM b (zX done e.2.1).1 e.2.2.2 (iY (mQ done e.2.1) bZ (prs done e.2.1)).1:=by
 rw[sN hb hl,hbud];simp only;rw[qQ (by omega),qQ (by omega),qQ (by omega)];unfold cM;rcases eB h he (xH hb).2.2.2 with⟨h1,h2⟩|⟨h1,_,_,h2⟩
 ·rw[h1,h2];simp
 ·rw[xQ h1];exact alZ _ _ _ _ h2
theorem c2Z {done:List En}(h:Inv done){e:En}(hb:sZ e=0)(hl:done.length<4096)(he:e.1=3){b:Rq}(hbud:fX done e.2.1=some b)(m:Rq)
  (hm:(kQ (mQ done e.2.1 e.2.2.1).1 e.2.2.2).2=0->Top (fun p=>(mQ (done++[e]) e.2.1 p).1) (fun p=>p∈prs (done++[e]) e.2.1) m) :
  cZ done e=tH b (zX done e.2.1).1 (mQ done e.2.1 e.2.2.1).1 e.2.2.2 m (decide (e.2.2.1∈prs done e.2.1)) (pZ done e.2.1).length e.2.2.1:=by
 have h0:¬ e.1=1:=by omega
 rw[sN hb hl,hbud];simp only;rw[qQ h0];unfold tH;by_cases c1:e.2.2.1<0\/1073741824<e.2.2.1
 ·rw[xQ ⟨he,c1⟩,xQ c1]
 rw[qQ (fun c=>c1 c.2),qQ c1];have h64:=h.par e.2.1
 have hps:(64<(pZ (done++[e]) e.2.1).length)↔(decide (e.2.2.1∈prs done e.2.1)=false/\64<=(pZ done e.2.1).length):=by
  rw[dB];by_cases c:e.2.2.1∈prs done e.2.1
  ·rw[qQ (fun k=>k.2.2 ((sP _ _ _).2 c))];simp[c];omega
  ·rw[xQ ⟨rfl,he,fun k=>c ((sP _ _ _).1 k)⟩];simp[c];omega
 by_cases c2:decide (e.2.2.1∈prs done e.2.1)=false/\64<=(pZ done e.2.1).length
 ·rw[xQ ⟨he,hps.2 c2⟩,xQ c2]
 rw[qQ (fun c=>c2 (hps.1 c.2)),qQ c2];rcases fB h he (xH hb).2.2.2 with⟨h1,h2⟩|⟨h1,_,_,h2,_⟩
 ·rw[h1,h2];simp
 ·rw[xQ h1];exact alZ _ _ _ _ (h2 m (hm h1))
theorem c2J {done:List En}(h:Inv done){n:ByteArray}(hn:fX done n=none):prs done n=[]/\zX done n=(bZ,0):=by
 have hz:prs done n=[]:=by
  unfold prs;rw[rR,sR];intro x hx;simp only[oV];rintro⟨k1,_⟩;obtain⟨_,_,_,b',k4⟩:=h.bad x hx;rw[k1,hn] at k4;cases k4
 have hy:lss done n 2 0=[]:=by
  unfold lss;rw[rR,sR];intro x hx;simp only[qH,oV];rintro⟨k1,_⟩;obtain⟨_,_,_,b',k4⟩:=h.bad x hx;rw[k1,hn] at k4;cases k4
 exact⟨hz,by unfold zX;rw[hy];rfl⟩
def tD (e:En):List Value:=[.int .i64 e.1,.string e.2.1,.int .i64 e.2.2.1,.int .i64 e.2.2.2.1,.int .i64 e.2.2.2.2]
def enc (l:List En):List Value:=l.flatMap tD
theorem tN (l:List En):(enc l).length=l.length*5:=by
 induction l with
 | nil=>rfl
 | cons e l ih=>simp only[enc,wI,zJ,iF] at *;rw[ih];simp[tD];omega
theorem c3Q (l:List En)(e:En):enc (l++[e])=enc l++tD e:=by simp[enc]
abbrev kN (n:ByteArray):Lit:=.string n.data.toList
structure PurM (w:World) (N:Nat->Prop) (bk bm:Nat) (D:DataW Value) (done:List En) (n:ByteArray) (b:Rq):Prop where
 ex:∃ bp np Dp,D.atKey (kN n) (.held zp)=.held (pv b (zX done n).1 bp)/\Pts w bp np Dp (fun p=>p∈prs done n) (fun p=>(mQ done n p).1)/\np<=done.length/\Maps.size Dp=(pZ done n).length/\N bp/\bp≠bk/\bp≠bm
structure BookM (w:World) (N:Nat->Prop) (bk bm n:Nat) (v:Value) (D:DataW Value) (done:List En):Prop where
 inv:Inv done
 two:TwoB w bk (.map (some bm)) v
 own:w.ownsMap prog 9 hR bm n D
 row:w.ownsRow 0 53 5 v done.length (enc done)
 cnt:n<=done.length
 is:∀ x:ByteArray,Maps.has D (kN x)=true↔∃ b,fX done x=some b
 el:∀ x b,fX done x=some b->PurM w N bk bm D done x b
 sz:Maps.size D=(aA done).length
 lob:N bk/\N bm/\bk≠bm/\∀ g,v.ownBlock=some g->N g/\g≠bk/\g≠bm
theorem PurM.gb {w w':World}{N:Nat->Prop}{bk bm:Nat}{D:DataW Value}{done:List En}{n:ByteArray}{b:Rq}{r:Option Nat}(h:PurM w N bk bm D done n b)(hg:w.grownBy w' r)(hr:∀ k,r=some k->¬ N k\/k=bk\/k=bm):PurM w' N bk bm D done n b:=by
 obtain⟨bp,np,Dp,h1,h2,h3,h4,h5,h6,h7⟩:=h.ex;exact⟨bp,np,Dp,h1,h2.gb hg (fun e=>by rcases hr bp e.symm with h|h|h;exact h h5;exact h6 h;exact h7 h),h3,h4,h5,h6,h7⟩
theorem BookM.gb {w w':World}{N:Nat->Prop}{bk bm n:Nat}{v:Value}{D:DataW Value}{done:List En}{r:Option Nat}(h:BookM w N bk bm n v D done)(hg:w.grownBy w' r)(hr:∀ k,r=some k->¬ N k):BookM w' N bk bm n v D done:=by
 obtain⟨hl1,hl2,hl3,hl4⟩:=h.lob;have hk:w'.heap[bk]? = w.heap[bk]?:=hg.block bk h.two.lt (fun e=>hr bk e.symm hl1);refine⟨h.inv,⟨(mZ (w:=w) (a:=⟨bk,0,none⟩) hk).trans h.two.c0,(mZ (w:=w) (a:=⟨bk,1,none⟩) hk).trans h.two.c1,(zV (w:=w) (a:=⟨bk,0,none⟩) hk).trans h.two.f0,(zV (w:=w) (a:=⟨bk,1,none⟩) hk).trans h.two.f1,qX h.two.lt hg.size⟩,h.own.kept hg (fun e=>hr bm e.symm hl2),?_,h.cnt,h.is,fun x b hx=>(h.el x b hx).gb hg (fun k e=>.inl (hr k e)),h.sz,h.lob⟩;refine h.row.kept hg ?_;cases hv:v.ownBlock with
 | none=>exact .inl rfl
 | some g =>
  right;intro e;exact hr g e.symm (hl4 g hv).1
theorem BookM.mono {w:World}{N N':Nat->Prop}{bk bm n:Nat}{v:Value}{D:DataW Value}{done:List En}(h:BookM w N bk bm n v D done)(hN:∀ k,k<w.heap.size->N k->N' k):BookM w N' bk bm n v D done:=by
 obtain⟨hl1,hl2,hl3,hl4⟩:=h.lob;refine⟨h.inv,h.two,h.own,h.row,h.cnt,h.is,fun x b hx=>?_,h.sz,hN _ h.two.lt hl1,hN _ h.own.lt hl2,hl3,fun g hg=>?_⟩
 ·obtain⟨bp,np,Dp,h1,h2,h3,h4,h5,h6,h7⟩:=(h.el x b hx).ex
  exact⟨bp,np,Dp,h1,h2,h3,h4,hN _ h2.own.lt h5,h6,h7⟩
 ·have:=hl4 g hg
  refine⟨hN g ?_ this.1,this.2⟩;rcases h.row.2 with⟨rfl,_⟩|⟨g',cap,cur,rfl,_,hc,_⟩
  ·cases hg
  ·simp only[Value.ownBlock,vX] at hg
   subst hg;exact(jU.1 hc).1
theorem BookM.keep {w w':World}{N:Nat->Prop}{bk bm n:Nat}{v:Value}{D:DataW Value}{done:List En}(h:BookM w N bk bm n v D done)(hb:Below w.heap.size w w'):BookM w' N bk bm n v D done:=h.gb (nD hb) (by simp)
