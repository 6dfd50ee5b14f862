import Derived.Test.YtcaplmodgbpchaaGreatDoorQq34
open Go.Proofs.Tryz
open Go.Value(int)
open Go.IntKind(i64)
set_option linter.unusedSimpArgs false
set_option maxHeartbeats 16000000
set_option maxRecDepth 100000
namespace Go.Proofs.YtcaplmodgbpchaaGreatDoor
variable {W W0 X w w' w3 wr:World} {E N0 base bh bw c cap g h n:Nat} {nm0 pn:ByteArray} {a0 a1 a2 a3 bv cv hv hv' v v0 v1 v2 v3 v4 v5:Value} {d er ez ld lu p u z:Int} {bits disk words xs:List Int} {G G' M N:Nat->Prop} {a:Option Addr} {ts:List (List Int)} {ws:List (Nat × Int)}
section
open Go.RowKit Ds
open K (Cl)
open K.P (HSt Keeps xX lX vZ qJ HouK DskM vH jZ gZ Ev Sn oA tZ TwoB)
def aG (e1:Int) (bits:List Int):Int:=if e1≠0 then e1 else xU bits 0
theorem ekZ (a:Below (W.alloc (.cells #[int i64 0,int i64 0] 37)).drew.heap.size (W.alloc (.cells #[int i64 0,int i64 0] 37)).drew w3):TwoB w3 W.heap.size (int i64 0) (int i64 0) :=
 ((TwoB.new W _ _ 37 _ rfl).below (uQ _ _).drew).below a
structure AkC (w:World) (E bh:Nat) (pn:ByteArray) (v0 v1 v2 v3 v4 v5 bv:Value) (u d lo hi:Int) (cv rv:Value):Prop where
 b:Bx w E [.string pn,v0,v1,v2,v3,v4,v5,int i64 u,int i64 d,int i64 lo,int i64 hi,bv]
 c0:Cl w bh 0 cv
 c1:Cl w bh 1 rv
theorem AkC.at {lo hi:Int}{rv:Value}(h:AkC w E bh pn v0 v1 v2 v3 v4 v5 bv u d lo hi cv rv)(a:xQ w w'):AkC w' E bh pn v0 v1 v2 v3 v4 v5 bv u d lo hi cv rv:=⟨h.b.at a,h.c0.at a,h.c1.at a⟩
theorem AkC.cells {lo hi:Int}{rv:Value}(h:AkC w E bh pn v0 v1 v2 v3 v4 v5 bv u d lo hi cv rv):w.cell? ⟨E,1,none⟩=some v0/\w.cell? ⟨E,2,none⟩=some v1/\w.cell? ⟨E,3,none⟩=some v2/\w.cell? ⟨E,4,none⟩=some v3/\w.cell? ⟨E,5,none⟩=some v4/\w.cell? ⟨E,6,none⟩=some v5/\w.cell? ⟨E,7,none⟩=some (int i64 u)/\w.cell? ⟨E,8,none⟩=some (int i64 d)/\w.cell? ⟨E,9,none⟩=some (int i64 lo)/\w.cell? ⟨E,10,none⟩=some (int i64 hi)/\w.cell? ⟨bh,0,none⟩=some cv/\w.cell? ⟨bh,1,none⟩=some rv :=
 ⟨(h.b 1 _ rfl).c,(h.b 2 _ rfl).c,(h.b 3 _ rfl).c,(h.b 4 _ rfl).c,(h.b 5 _ rfl).c,(h.b 6 _ rfl).c,(h.b 7 _ rfl).c,(h.b 8 _ rfl).c,(h.b 9 _ rfl).c,(h.b 10 _ rfl).c,h.c0.c,h.c1.c⟩
theorem AkC.oth2 {lo hi:Int}{rv:Value}(h:AkC w E bh pn v0 v1 v2 v3 v4 v5 bv u d lo hi cv rv)(i:g≠E)(a:g≠bh)(x y:Value):AkC ((w.setCell ⟨g,0,none⟩ x).setCell ⟨g,1,none⟩ y) E bh pn v0 v1 v2 v3 v4 v5 bv u d lo hi cv rv :=
 ⟨(h.b.oth i _).oth i _,(h.c0.oth (.inl a) _).oth (.inl a) _,(h.c1.oth (.inl a) _).oth (.inl a) _⟩
theorem ekJ {K:Nat->Prop}(hi:∀ m,m<h->yQ w w.heap.size m v xs)(C:0<h)(A:Keeps w w' K)(D:∀ k,K k->k<h):yQ w' w'.heap.size w'.heap.size v xs:=by
 obtain⟨a,c,B,hc,F,G⟩:=hi 0 C;refine⟨a,c,B,hc,F,fun hne=>?_⟩;obtain⟨b,o,ha,E,_,g⟩:=G hne
 have p:¬ K b:=fun hkb=>by
  obtain⟨H,I,l,_,_,z⟩:=hi b (D b hkb);rw[B] at l;cases l;obtain⟨b',L,j,_,y,_⟩:=z hne;rw[ha] at j;cases j;exact y rfl
 have e:=A.block b E p;have J:=A.size;exact⟨b,o,ha,by omega,by omega,fun i x hix=>(vJ (w:=w) (a:=⟨b,o+i,none⟩) e).trans (g i x hix)⟩
theorem elQ {ts:List Tr}{K:Nat->Prop}(hi:∀ m,m<h->pY w w.heap.size m v ts)(C:0<h)(A:Keeps w w' K)(D:∀ k,K k->k<h):uX w' w'.heap.size v ts:=by
 obtain⟨a,c,E,hc,G,N,H⟩:=hi 0 C;refine⟨a,c,E,hc,G,fun t ht=>ekJ (fun m hm=>?_) C A D,fun hne=>?_⟩
 ·obtain⟨_,_,_,_,_,p,_⟩:=hi m hm
  exact p t ht
 obtain⟨b,o,ha,F,_,g⟩:=H hne
 have y:¬ K b:=fun hkb=>by
  obtain⟨L,M,l,_,_,_,B⟩:=hi b (D b hkb);rw[E] at l;cases l;obtain⟨b',P,j,_,z,_⟩:=B hne;rw[ha] at j;cases j;exact z rfl
 have e:=A.block b F y;have O:=A.size;refine⟨b,o,ha,by omega,fun i t hit=>?_⟩;obtain⟨I,J⟩:=g i t hit;exact⟨(vJ (w:=w) (a:=⟨b,_,none⟩) e).trans I,(vJ (w:=w) (a:=⟨b,_,none⟩) e).trans J⟩
theorem elX {zs:List Dz}{K:Nat->Prop}(d:fJ w h v zs)(m:0<h)(j:Keeps w w' K)(l:∀ k,K k->k<h):kM w' w'.heap.size v zs:=by
 obtain⟨a,c,A,hc,y,hi,B⟩:=d;refine⟨a,c,A,hc,y,fun z hz=>elQ (hi z hz) m j l,fun hne=>?_⟩;obtain⟨b,o,ha,C,p,g⟩:=B hne;have e:=j.block b p (fun c=>by have:=l b c;omega);have D:=j.size;exact⟨b,o,ha,by omega,fun i z hz=>(vJ (w:=w) (a:=⟨b,o+i,none⟩) e).trans (g i z hz)⟩
theorem elZ (pn:ByteArray)(z ez lu ld:Int):K.P.nrm (tZ pn z ez lu ld)=tZ pn z ez lu ld:=by
 unfold tZ;split <;> rfl
theorem bwJ (pn:ByteArray)(z ez lu ld:Int):(tZ pn z ez lu ld).2.1=pn:=by
 unfold tZ;split <;> rfl
theorem bxQ (h:0<=z/\z<=4096):-9223372036854775808<=(tZ pn z ez lu ld).2.2.1/\(tZ pn z ez lu ld).2.2.1<=9223372036854775807:=by
 unfold tZ;split
 ·simp only;omega
 ·simp only;omega
theorem fsX {left:Int}{done:List K.P.En}{e:K.P.En}{s':HSt}(h:jZ ⟨disk,left,true,false,done⟩ e=(s',0)):s'.brk=false:=by
 unfold jZ at h;split at h
 ·simp at h
 ·split at h
  ·simp only[cQ] at h;rename_i c;exact absurd h.2 c
  ·split at h
   ·simp only[cQ] at h;rw[<-h.1]
   ·simp at h
theorem bxX {l:List Pt}(h:fU l=(l,0))(bits:List Int):∃ l2,bH l bits 0=(l2,xU bits 0):=by
 unfold bH;rw[h];simp only[uA];unfold cF;by_cases c:xU bits 0=0
 ·rw[jQ c];exact⟨_,by rw[c]⟩
 ·rw[zQ c];exact⟨_,rfl⟩
theorem bxZ (h:xU bits 0=0):kY bits=false/\bits.length<=65536:=by
 unfold xU at h;split at h
 ·cases h
 ·split at h
  ·cases h
  ·rename_i h1 h2
   refine⟨?_,by omega⟩;cases hb:kY bits with
   | false=>rfl
   | true=>exact absurd (.inr (.inr hb)) h2
open K (Cl)
open K.P (HSt Keeps xX lX vZ qJ HouK DskM vH jZ gZ Ev Sn oA tZ TwoB)
theorem yR (a:Bx X E [a0,a1,a2,a3])(u0 u1 u2 u3:Value):Bx ((((X.setCell ⟨E,0,none⟩ u0).setCell ⟨E,1,none⟩ u1).setCell ⟨E,2,none⟩ u2).setCell ⟨E,3,none⟩ u3) E [u0,u1,u2,u3]/\Keeps X ((((X.setCell ⟨E,0,none⟩ u0).setCell ⟨E,1,none⟩ u1).setCell ⟨E,2,none⟩ u2).setCell ⟨E,3,none⟩ u3) (fun k=>k=E):=by
 refine⟨(((a.set (i:=0) (by simp) u0).set (i:=1) (by simp) u1).set (i:=2) (by simp) u2).set (i:=3) (by simp) u3,?_⟩;have g:Keeps X (X.setCell ⟨E,0,none⟩ u0) (fun k=>k=E):=lX (vZ _ (fun k=>k=E)) (p:=⟨E,0,none⟩) (.inl rfl) _;have h:=lX g (p:=⟨E,1,none⟩) (.inl rfl) u1;have j:=lX h (p:=⟨E,2,none⟩) (.inl rfl) u2;exact lX j (p:=⟨E,3,none⟩) (.inl rfl) u3
theorem rU (a:Bx X E [a0,a1,a2,a3]):(X.cell? ⟨E,0,none⟩=some a0/\X.cell? ⟨E,1,none⟩=some a1/\X.cell? ⟨E,2,none⟩=some a2/\X.cell? ⟨E,3,none⟩=some a3)/\X.frozen? ⟨E,0,none⟩=false/\X.frozen? ⟨E,1,none⟩=false/\X.frozen? ⟨E,2,none⟩=false/\X.frozen? ⟨E,3,none⟩=false :=
 ⟨⟨(a 0 _ rfl).c,(a 1 _ rfl).c,(a 2 _ rfl).c,(a 3 _ rfl).c⟩,(a 0 _ rfl).f,(a 1 _ rfl).f,(a 2 _ rfl).f,(a 3 _ rfl).f⟩
theorem afZ (h:K.RowI w g xs)(j:Keeps w w' N)(k:¬ N g):K.RowI w' g xs :=
 have e:=j.block g h.lt k
 ⟨fun i x hi=>(vJ (w:=w) (a:=⟨g,i,none⟩) e).trans (h.cells i x hi),fun i hi=>(nV (w:=w) (a:=⟨g,i,none⟩) e).trans (h.thaw i hi),lQ h.lt j.size⟩
theorem elJ (M:Nat->Prop)(bh bd bw B nb:Nat)(a:Option Addr)(c:Nat)(l:List K.Ds.aQ)(ts:List (List Int))(disk:List Int)(left:Int)(done:List K.P.En)(pn:ByteArray)(v0 v1 v2 v3 v4 v5:Value)(xa:Option Addr)(xc:Nat)(bits:List Int)(q:K.Ds.Qu)(u d lo hi:Int)(w:World)
  (hh:qJ w M bh bd l ts done) (hd:DskM w bd bw a c disk left) (hM:¬ M bd/\¬ M bw) (dr:∀ k,M k->B<=k/\k<w.heap.size) (fu:B<=bd/\B<=bw) (ic:bw<w.heap.size) (hl:-9223372036854775808<=left/\left<=9223372036854775807) (hs:pn.size<=9223372036854775807) (hB:B<=w.heap.size) (hq:K.Qm w B q v0 v1 v2 v3 v4 v5) (ea:pU w B nb (.slice xa bits.length xc) bits) (bn:xa=none->xc=0) (fy:zX lo) (fx:zX hi)
  (nm0:ByteArray) (eo:Int) (ed:l[0]? = some (nm0,eo)) (z ez:Int) (hz:K.iU (K.prt l q nm0)=(z,ez)) (ls:List (List Pt)) (lu ld e1:Int) (hA:eA u d lo hi l ts q=(ls,lu,ld,e1)) (s':HSt) (er:Int) (t2:Option (List Int × Nat))
  (ek:gZ 0 ⟨disk,left,true,false,done⟩ (.ask (aG e1 bits) (tZ pn z ez lu ld) (fZ ls bits 0 []))=(s',⟨er,t2,[]⟩)) :
  Calls prog 11 #[.pointer (some ⟨bh,0,none⟩),oA pn v0 v1 v2 v3 v4 v5 u d lo hi (.slice xa bits.length xc)] w (gL M bh bd bw a c l ts s' er (fZ ls bits 0 []) lu ld w):=by
 have HH:=qQ hh;have HD:=qQ hd;have HM:=qQ hM;have ax:=qQ dr;have gz:=qQ fu;have fg:=qQ hl;have HQ:=qQ hq;have d4:=qQ ea;have fh:=qQ bn;have fe:=qQ ed;have HZ:=qQ hz;have HA:=qQ hA;have de:=qQ ek;have ia:bd<w.heap.size:=hd.c0.lt;obtain⟨cv,rv,bk,bm,n,v,D,h,BB,N,k⟩:=hh;obtain⟨kk,kc,kl,kh,ka,kn,kd,kb,km,kp,rfl,rfl,rfl,rfl,rfl,rfl⟩:=hq.shape;obtain⟨W,hW⟩:∃ W,(w.alloc (.cells #[.string pn,int i64 kk,.string kc,int i64 kl,int i64 kh,.slice ka kn kd,.slice kb km kp,int i64 u,int i64 d,int i64 lo,int i64 hi,.slice xa bits.length xc] 55)).alloc (.cells #[.slice none 0 0,int i64 0,int i64 0,int i64 0] 39)=W:=⟨_,rfl⟩;have Y:xQ w W:=hW▸bal (ba _ _) _;have dx:w.heap.size+2<=W.heap.size:=by rw[<-hW];simp
 have ib:bh<w.heap.size:=k.hc.c0.lt
 have hK:AkC W w.heap.size bh pn (int i64 kk) (.string kc) (int i64 kl) (int i64 kh) (.slice ka kn kd) (.slice kb km kp) (.slice xa bits.length xc) u d lo hi cv rv :=
  ⟨hW▸(Bx.new w [.string pn,int i64 kk,.string kc,int i64 kl,int i64 kh,.slice ka kn kd,.slice kb km kp,int i64 u,int i64 d,int i64 lo,int i64 hi,.slice xa bits.length xc] 55 rfl).at (ba _ _),k.hc.c0.at Y,k.hc.c1.at Y⟩
 have dt:Bx W (w.heap.size+1) [.slice none 0 0,int i64 0,int i64 0,int i64 0]:=hW▸Bx.new _ [.slice none 0 0,int i64 0,int i64 0,int i64 0] 39 (by simp);have dc:=qQ dt;have m5:=(k.hc.c5.at Y).c
 obtain⟨⟨cx,cy,rfl⟩,⟨rx,ry,rz,rfl⟩⟩:(∃ a c,cv=.slice a l.length c)/\(∃ a n c,rv=.slice a n c):=by
  obtain⟨j0,_,h⟩:=k.tb;obtain⟨⟨a,c,h1,_⟩,⟨a2,c2,h2,_⟩⟩:=h w ⟨k.hB.2,fun _ _ _=>rfl⟩;exact⟨⟨a,c,h1⟩,⟨a2,_,c2,h2⟩⟩
 have kA:∀ X,xQ W X->AkC X w.heap.size bh pn (int i64 kk) (.string kc) (int i64 kl) (int i64 kh) (.slice ka kn kd) (.slice kb km kp) (.slice xa bits.length xc) u d lo hi (.slice cx l.length cy) (.slice rx ry rz)->Calls prog 23 #[.agg #[int i64 u,int i64 d],int i64 lo,int i64 hi,.agg #[.slice cx l.length cy,.slice rx ry rz],.agg #[int i64 kk,.string kc,int i64 kl,int i64 kh,.slice ka kn kd,.slice kb km kp]] X fun e w'=>∃ pa T zs,e=.returned (.tuple #[.slice pa (zs:List Dz).length T,.agg #[int i64 lu,int i64 ld],int i64 e1])/\(rds zs=ls/\fJ w' X.heap.size (.slice pa zs.length T) zs/\zs.length<=4096/\xQ W w')/\xQ X w'/\AkC w' w.heap.size bh pn (int i64 kk) (.string kc) (int i64 kl) (int i64 kh) (.slice ka kn kd) (.slice kb km kp) (.slice xa bits.length xc) u d lo hi (.slice cx l.length cy) (.slice rx ry rz):=fun X hX hC=>by
  have bX:xQ w X:=bt Y hX;obtain⟨rs,g4,h1,h2⟩:=K.P.bwX (k.tb.kp (K:=fun _=>False) (xX bX) k.hB.2 (fun _ _ _ h=>h)) (bQ k.hB.2 bX.size);have V:K.Qm X X.heap.size q (int i64 kk) (.string kc) (int i64 kl) (int i64 kh) (.slice ka kn kd) (.slice kb km kp):=K.P.afQ (bQ hB bX.size) q (HQ.out.at hB bX);refine(ebX X.heap.size u d lo hi _ _ _ _ _ _ _ _ l rs q X (vQ _) h1 h2 V fy fx ls lu ld e1 (by rw[g4];exact HA.out)).mono ?_;rintro e w' ⟨v,zs,he,h4,h5,h6,h7⟩;obtain⟨pa,T,rfl,_⟩:=id h5;exact⟨pa,T,zs,he,⟨h4,h5,h6,bt hX h7⟩,h7,hC.at h7⟩
 have I1:Hid (AkC W.drew w.heap.size bh pn (int i64 kk) (.string kc) (int i64 kl) (int i64 kh) (.slice ka kn kd) (.slice kb km kp) (.slice xa bits.length xc) u d lo hi (.slice cx l.length cy) (.slice rx ry rz)):=hK.at (uQ _ _).drew;have I2:Hid (∀ o,AkC (W.alloc o).drew w.heap.size bh pn (int i64 kk) (.string kc) (int i64 kl) (int i64 kh) (.slice ka kn kd) (.slice kb km kp) (.slice xa bits.length xc) u d lo hi (.slice cx l.length cy) (.slice rx ry rz)):=fun o=>(hK.at (ba _ _)).at (uQ _ _).drew;have J1:Hid (xQ W W.drew):=(uQ _ _).drew;have J2:Hid (∀ o,xQ W (W.alloc o).drew):=fun o=>(ba _ _).drew;have a9:Hid (W.heap.size≠w.heap.size/\W.heap.size≠bh):=⟨by omega,by omega⟩;have ce:Hid (∀ X:World,xQ W X->X.heap.size≠w.heap.size/\X.heap.size≠bh):=fun X hX=>by have:=hX.size;exact⟨by omega,by omega⟩
 have f8:=qQ Y;have dg:=qQ dx;obtain⟨e0,fq,e2,e3,e4,e5,e6,e7,e8,e9,fr,fs⟩:=hK.cells;have da:=qQ hK;clear hd hM dr hl hq ea bn ed hz hA ek k hK Y dx dt;go_enter func11,ntmps11;go_wp2;clear hW
 go_cut [6,7,8] (fun pv lv ev wx=>∃ pa T zs g,pv=.slice pa (zs:List Dz).length T/\lv=.pointer (some ⟨g,0,none⟩)/\ev=int i64 e1/\w.heap.size+2<=g/\Hid (rds zs=ls/\fJ wx (w.heap.size+2) (.slice pa zs.length T) zs/\zs.length<=4096)/\Hid (xQ W wx)/\Hid (TwoB wx g (int i64 lu) (int i64 ld)))
 case first =>
  go_region_held3 (fun w'=>w'.cell? ⟨w.heap.size,1,none⟩=some (int i64 kk)/\w'.cell? ⟨w.heap.size,2,none⟩=some (.string kc)/\w'.cell? ⟨w.heap.size,3,none⟩=some (int i64 kl)/\w'.cell? ⟨w.heap.size,4,none⟩=some (int i64 kh)/\w'.cell? ⟨w.heap.size,5,none⟩=some (.slice ka kn kd)/\w'.cell? ⟨w.heap.size,6,none⟩=some (.slice kb km kp)/\w'.cell? ⟨w.heap.size,7,none⟩=some (int i64 u)/\w'.cell? ⟨w.heap.size,8,none⟩=some (int i64 d)/\w'.cell? ⟨w.heap.size,9,none⟩=some (int i64 lo)/\w'.cell? ⟨w.heap.size,10,none⟩=some (int i64 hi)/\w'.cell? ⟨bh,0,none⟩=some (.slice cx l.length cy)/\w'.cell? ⟨bh,1,none⟩=some (.slice rx ry rz))
   ((refine AkC.cells (pn:=pn) (bv:=.slice xa bits.length xc) ?_;first|with_reducible exact I1.out|with_reducible exact I2.out _|with_reducible exact I|with_reducible exact I.at (ba _ _)|with_reducible exact I.oth2 a9.out.1 a9.out.2 _ _|with_reducible exact(I.at (ba _ _)).oth2 cj.1 cj.2 _ _))
   (first
    | (go_at_call 23;refine(kA _ (J2.out _) ?_).mono ?_;(with_reducible exact I2.out _);rintro x3 w3 ⟨pa,T,zs,rfl,A,b3,I⟩;have du:=ekZ b3;obtain⟨s0,s1,s2,s3,s4,s5,s6,s7,s8,s9,gd,ge⟩:=I.cells;obtain⟨t0,t1,ja,jb,ih⟩:=id du;have cj:=ce.out _ A.2.2.2)
    | (go_at_call 23;refine(kA _ J1.out ?_).mono ?_;(with_reducible exact I1.out);rintro x3 w3 ⟨pa,T,zs,rfl,A,b3,I⟩;obtain⟨s0,s1,s2,s3,s4,s5,s6,s7,s8,s9,gd,ge⟩:=I.cells;have cj:=ce.out _ A.2.2.2))
  ·have co:=b3.size
   have z3:W.heap.size<=w3.heap.size:=co;have em:=dg.out;go_wp2;go_meet;refine⟨pa,T,zs,w3.heap.size,rfl,rfl,rfl,by omega,⟨A.1,(A.2.1.mono em).keep (ba _ _),A.2.2.1⟩,bal A.2.2.2 _,TwoB.new _ _ _ 37 _ rfl⟩
  ·have co:=b3.size
   have z3:W.heap.size+1<=w3.heap.size:=by simpa using co
   have em:=dg.out;go_wp2;go_meet;refine⟨pa,T,zs,W.heap.size,rfl,rfl,rfl,by omega,⟨A.1,((A.2.1.set (by simp)).set (by simp)).mono (by simp;omega),A.2.2.1⟩,bs (bs A.2.2.2 (vQ _) _) (vQ _) _,du.put _ _⟩
 case rest =>
  obtain⟨pa,T,zs,g,rfl,rfl,rfl,hg,F,ca,db⟩:=hcut;have bb:xQ w wc:=bt f8.out ca.out;have bz:=qQ bb;have bc:=dc.out.at ca.out;have R:=qQ bc;clear kA I1 I2 J1 J2 a9 ce e0 fq e2 e3 e4 e5 e6 e7 e8 e9 fr fs m5 bb bc dc
  have dh:Hid (∀ p X,aG e1 bits=p->p≠0->xQ w X->gL M bh bd bw a c l ts s' er (fZ ls bits 0 []) lu ld w (.returned (.tuple #[aD,int i64 p])) X):=fun p X hp hp0 hX=>by
   have h1:=de.out;simp only[gZ] at h1;rw[zQ (by simp),zQ (by simp),jQ (by rw[hp];exact hp0),hp] at h1;simp only[cQ,Sn.mk.injEq] at h1;obtain⟨rfl,rfl,_⟩:=h1;exact⟨xX hX,HD.out.at hX,M,fun k hk=>.inl hk,fun _=>HH.out.kp (K:=fun _=>False) (xX hX) (fun _ _ h=>h),(fun h=>by cases h),.inl ⟨hp0,rfl⟩⟩
  by_cases h0:e1=0
  ·subst h0
   obtain⟨bp,_⟩:=bwZ HA.out HQ.out;have ae:=(aeZ HA.out).1;have b8:zs.length=ls.length:=by rw[<-F.out.1,uK]
   have bi:=F.out.2.1.dss (by omega);obtain⟨b,o,na,nc,Z,rfl,hb,ec,d1,hP⟩:=bi.get (vQ _) (uQ _ _) (i:=0) (by omega);have eg:(rds zs)[0]? = some (rd Z):=by rw[rds,mV,ec];rfl
   have bq:=(ae (rd Z) (by rw[<-F.out.1];exact qX eg)).1;obtain⟨l2,cn⟩:=bxX bq bits;obtain⟨e2,cm⟩:∃ e2,xU bits 0=e2:=⟨_,rfl⟩;rw[cm] at cn;have az:=da.out.at ca.out;have dj:=(az.b 11 _ rfl).c;have fp:=(az.b 11 _ rfl).lt;have fv:b<wc.heap.size:=hb;have ch:xQ w wc.drew:=bz.out.drew;have kR:=dsQ wc.drew.heap.size B (.slice na Z.length nc) (.slice xa bits.length xc) Z bits 0 wc.drew (vQ _) (hP.keep (uQ _ _).drew) ((d4.out.at hB ch).mono (bQ hB ch.size) (.inr (vQ _))) (by omega) l2 e2 cn;have df:=qQ ae;have d7:=qQ az;have cb:=qQ cm;have fl:Hid (zs.length=ls.length/\1<=ls.length):=⟨b8,bp⟩;have di:wc.cell? ⟨b,o,none⟩=some (.slice na Z.length nc):=by simpa using d1
   have z1:(0:Int)<(zs.length:Int):=by omega
   have z2:0<zs.length:=by omega
   clear bp ae b8 bi ec eg bq cn cm az ch hP d1 da;go_wp2_with fail
   go_region_held3 (fun w'=>w'.cell? ⟨b,o,none⟩=some (.slice na Z.length nc)/\w'.cell? ⟨w.heap.size,11,none⟩=some (.slice xa bits.length xc)) (first|assumption|(simp[go_sem, *];done))
    ((go_at_call 24;refine kR.mono ?_;rintro x w6 ⟨j1,hn,rfl,_,⟨iy,iz,ej,_⟩,b5,_⟩;subst ej;have q1:=(b5.cell (p:=⟨b,o,none⟩) fv).trans di;have q2:=(b5.cell (p:=⟨w.heap.size,11,none⟩) fp).trans dj))
   clear kR di dj q1 q2;have B6:xQ wc w6:=bt (uQ _ _).drew b5;have a8:=qQ (bt bz.out B6);have ay:=qQ (R.out.at B6);have y:=qQ (d7.out.at B6);have cc:=qQ (db.out.below B6);have dd:=qQ (F.out.2.1.keep B6);have g5:w.heap.size<=w6.heap.size:=a8.out.size;clear B6 b5 R d7 db;by_cases h2:e2=0
   ·subst h2
    obtain⟨bf,bj⟩:=bxZ cb.out;have kP:=K.P.ejJ M bh bd w6.heap.size l ts done pn _ _ _ _ _ _ (.slice xa bits.length xc) q u d lo hi lu ld w6 (HH.out.kp (K:=fun _=>False) (xX a8.out) (fun _ _ h=>h)) (vQ _) (K.P.afQ (bQ hB g5) q (HQ.out.at hB a8.out)) ⟨_,_,_,rfl⟩ nm0 eo fe.out z ez HZ.out;obtain⟨g0,g1,_,_,_⟩:=cc.out;have c0:=(y.out.b 0 _ rfl).c;have c1:=(y.out.b 1 _ rfl).c;have c2:=(y.out.b 2 _ rfl).c;have c3:=(y.out.b 3 _ rfl).c;have c4:=(y.out.b 4 _ rfl).c;have c5:=(y.out.b 5 _ rfl).c;have c6:=(y.out.b 6 _ rfl).c;have c7:=(y.out.b 7 _ rfl).c;have c8:=(y.out.b 8 _ rfl).c;have c9:=(y.out.b 9 _ rfl).c;have fo:=(y.out.b 10 _ rfl).c;have ci:=(y.out.b 11 _ rfl).c;have aw:Hid (kY bits=false/\bits.length<=65536):=⟨bf,bj⟩;clear bf bj;go_wp2_with fail;refine kP.mono ?_;rintro x w7 ⟨rfl,L⟩;have bx:=qQ (bt a8.out L);have ij:w6.heap.size<=w7.heap.size:=L.size;obtain⟨e,ac⟩:∃ e,tZ pn z ez lu ld=e:=⟨_,rfl⟩;obtain⟨s1,E,b6⟩:∃ s1 E,jZ ⟨disk,left,true,false,done⟩ e=(s1,E):=⟨_,_,rfl⟩;have kD:=K.P.bbJ M bh bd bw a c l ts disk left done e w7 (HH.out.kp (K:=fun _=>False) (xX bx.out) (fun _ _ h=>h)) (HD.out.at bx.out) HM.out (by omega) fg.out (by rw[<-ac,bwJ];exact hs) (by rw[<-ac];exact bxQ (K.P.aeJ HZ.out)) (by rw[<-ac];exact elZ _ _ _ _ _) s1 E b6;have S:=de.out;simp only[gZ] at S;rw[zQ (by simp),zQ (by simp),zQ (by unfold aG;rw[zQ (by simp)];simpa using cb.out),ac,b6] at S;have cg:Hid _:=S;clear S;have gx:=qQ b6;simp only[ac];have d6:=qQ (y.out.at L);have cf:=qQ (ay.out.at L);have cd:=qQ (cc.out.below L);have fj:=qQ (dd.out.keep L);clear kP L y ay cc dd c0 c1 c2 c3 c4 c5 c6 c7 c8 c9 fo ci g0 g1 b6;go_wp2_with fail;refine kD.mono ?_;rintro x Q ⟨rfl,G,dm,dp,dy⟩;have ik:w7.heap.size<=Q.heap.size:=G.size
    have nE:∀ k,w.heap.size<=k->¬ (M k\/k=bd\/k=bw):=fun k hk=>by
     rintro(m|m|m)
     ·have:=(ax.out k m).2;omega
     ·omega
     ·omega
    have U:Hid (Keeps w Q (fun k=>M k\/k=bd\/k=bw)):=(xX bx.out).trans G;have fd:=qQ G;have aa:=qQ (cf.out.kp G (nE _ (by omega)));have d5:=qQ (d6.out.b.kp G (nE _ (vQ _)));have ff:=qQ (K.P.bbZ cd.out (G.block g cd.out.lt (nE g (by omega))) G.size);have fa:=qQ dm;have fc:=qQ dp;have fk:=qQ dy;have a9:=qQ nE
    have br:Hid (∀ X e' er',Keeps Q X (fun k=>k=w.heap.size+1)->s' = s1->er=er'->((er'≠0/\e' = .returned (.tuple #[aD,int i64 er']))\/(er' = 0/\∃ H us gg,fZ ls bits 0 []=some (H,us)/\H≠[]/\H.length<=4096/\us<=65536/\e' = .returned (.tuple #[.agg #[.slice (some ⟨gg,0,none⟩) (H:List Int).length H.length,int i64 (us:Int),int i64 lu,int i64 ld],int i64 0])/\Q.heap.size<=gg/\K.RowI X gg H))->gL M bh bd bw a c l ts s' er (fZ ls bits 0 []) lu ld w e' X):=fun X e' er' hX h1 h2 V=>by
     subst h1 h2;have il:=hX.size
     have kw:Keeps w X (fun k=>M k\/k=bd\/k=bw):=by
      have k1:Keeps w X (fun k=>(M k\/k=bd\/k=bw)\/w.heap.size<=k):=(U.out.imp (fun k _ h=>.inl h)).trans (hX.imp (fun k _ h=>.inr (by omega)));exact k1.imp (fun k hk h=>h.elim id (fun c=>by omega))
     have ft:∀ k,M k\/w7.heap.size<=k/\k<Q.heap.size->¬ k=w.heap.size+1:=fun k hk c=>by
      have h7:=(cf.out 0 _ rfl).lt;rcases hk with m|m
      ·have:=(ax.out k m).2;omega
      ·omega
     refine⟨kw,fa.out.kp hX (by omega) (by omega),(fun k=>M k\/w7.heap.size<=k/\k<Q.heap.size),fun k hk=>hk.imp id (fun h=>⟨by omega,by omega⟩),fun hb=>(fc.out hb).kp hX ft,fun hb=>K.P.wV (fk.out hb) hX (by omega),?_⟩;rcases V with V|⟨V,H,us,gg,q1,q2,q3,q4,q5,q6,q7⟩
     ·exact .inl V
     ·refine .inr ⟨V,H,us,gg,q1,q2,q3,q4,q5,by omega,fun hk=>?_,q7⟩
      rcases hk with m|m
      ·have:=(ax.out gg m).2;omega
      ·omega
    clear kD G dm dp dy nE d6 cf cd;by_cases V:E=0
    ·subst V
     have bg:Below B w Q:=⟨U.out.os,U.out.tape,U.out.output,U.out.size,fun k hk=>U.out.block k (by omega) (by
      rintro(m|m|m)
      ·have:=(ax.out k m).1;omega
      ·omega
      ·omega)⟩
     have eb:kM Q Q.heap.size (.slice (some ⟨b,o,none⟩) zs.length T) zs:=elX fj.out (by omega) fd.out (fun k hk=>by
      by_cases c:w.heap.size<=k
      ·exact absurd hk (a9.out k c)
      ·omega)
     have kW:=ecJ Q.heap.size nb (.slice (some ⟨b,o,none⟩) zs.length T) (.slice xa bits.length xc) zs bits Q (vQ _) eb F.out.2.2 (by rw[F.out.1];exact df.out) (((d4.out.keep bg).mono (by omega) (.inl rfl)).2 aw.out.2) (fun n c h=>by cases h;exact fh.out rfl) aw.out.1 aw.out.2;rw[F.out.1] at kW;have ci:=(d5.out 11 _ rfl).c;clear bg eb;go_wp2_with fail;refine kW.mono ?_;clear kW ci;rintro x w9 ⟨O,(⟨ef,rfl⟩|⟨H,us,ck,cq,ii,rfl,eh⟩)⟩
     ·have J:=aa.out.at O
      obtain⟨⟨r0,r1,r2,r3⟩,f0,f1,f2,f3⟩:=rU J;have hZ:=yR J (.slice none 0 0) (int i64 0) (int i64 0) (int i64 0);obtain⟨⟨x0,x1,x2,x3⟩,_⟩:=rU hZ.1;have j:=cg.out;rw[zQ (by simp),ef] at j;simp only[cQ,Sn.mk.injEq] at j;have C:Hid (gL M bh bd bw a c l ts s' er (fZ ls bits 0 []) lu ld w (.returned (.tuple #[aD,int i64 6])) _):=br.out _ _ 6 ((xX O).trans hZ.2) j.1.symm j.2.1.symm (.inl ⟨by decide,rfl⟩);clear hZ j J O ef;go_wp2;refine eQ (v:=.tuple #[aD,int i64 6]) ?_ rfl C.out;simp[results,results11,go_sem,x0,x1,x2,x3]
     ·have J:=aa.out.at O
      obtain⟨⟨r0,r1,r2,r3⟩,f0,f1,f2,f3⟩:=rU J;have hZ:=yR J (.slice (some ⟨Q.heap.size,0,none⟩) H.length H.length) (int i64 (us:Int)) (int i64 lu) (int i64 ld);obtain⟨⟨x0,x1,x2,x3⟩,_⟩:=rU hZ.1;obtain⟨g0,g1,_,_,_⟩:=ff.out.below O;have j:=cg.out;rw[zQ (by simp),ck] at j;simp only[cQ,Sn.mk.injEq] at j;have h8:=(aa.out 0 _ rfl).lt;have b8:=fl.out;have g6:=F.out.2.2;have ei:=afZ eh hZ.2 (by omega);have C:Hid (gL M bh bd bw a c l ts s' er (fZ ls bits 0 []) lu ld w (.returned (.tuple #[.agg #[.slice (some ⟨Q.heap.size,0,none⟩) H.length H.length,int i64 (us:Int),int i64 lu,int i64 ld],int i64 0])) _):=br.out _ _ 0 ((xX O).trans hZ.2) j.1.symm j.2.1.symm (.inr ⟨rfl,H,us,Q.heap.size,ck,(fun c=>by rw[c] at cq;simp at cq;omega),by omega,by have:=aw.out.2;omega,rfl,vQ _,ei⟩);clear hZ j J O ck eh ei cq b8 g6;go_wp2;refine eQ (v:=.tuple #[.agg #[.slice (some ⟨Q.heap.size,0,none⟩) H.length H.length,int i64 (us:Int),int i64 lu,int i64 ld],int i64 0]) ?_ rfl C.out;simp[results,results11,go_sem,x0,x1,x2,x3]
    ·have i3:(E == 0)=false:=by simpa using V
     have i4:(E != 0)=true:=by simpa using V
     obtain⟨⟨r0,r1,r2,r3⟩,f0,f1,f2,f3⟩:=rU aa.out;have hZ:=yR aa.out (.slice none 0 0) (int i64 0) (int i64 0) (int i64 0);obtain⟨⟨x0,x1,x2,x3⟩,_⟩:=rU hZ.1;have j:=cg.out;rw[jQ V] at j;simp only[cQ,Sn.mk.injEq] at j;have C:Hid (gL M bh bd bw a c l ts s' er (fZ ls bits 0 []) lu ld w (.returned (.tuple #[aD,int i64 E])) _):=br.out _ _ E hZ.2 j.1.symm j.2.1.symm (.inl ⟨V,rfl⟩);clear hZ j;go_wp2;refine eQ (v:=.tuple #[aD,int i64 E]) ?_ rfl C.out;simp[results,results11,go_sem,x0,x1,x2,x3]
   ·have i1:(e2 == 0)=false:=by simpa using h2
    have i2:(e2 != 0)=true:=by simpa using h2
    obtain⟨⟨r0,r1,r2,r3⟩,f0,f1,f2,f3⟩:=rU ay.out;obtain⟨⟨x0,x1,x2,x3⟩,_⟩:=rU (yR ay.out (.slice none 0 0) (int i64 0) (int i64 0) (int i64 0)).1;have C:Hid (∀ X,xQ w X->gL M bh bd bw a c l ts s' er (fZ ls bits 0 []) lu ld w (.returned (.tuple #[aD,int i64 e2])) X):=fun X hX=>dh.out e2 X (by unfold aG;rw[zQ (by simp)];exact cb.out) h2 hX;go_wp2;refine eQ (v:=.tuple #[aD,int i64 e2]) ?_ rfl (C.out _ ?_)
    ·simp[results,results11,go_sem,x0,x1,x2,x3]
    ·exact bs (bs (bs (bs a8.out (by simp) _) (by simp) _) (by simp) _) (by simp) _
  ·have hy:(e1 == 0)=false:=by simpa using h0
   have i0:(e1 != 0)=true:=by simpa using h0
   obtain⟨⟨r0,r1,r2,r3⟩,f0,f1,f2,f3⟩:=rU R.out;obtain⟨⟨x0,x1,x2,x3⟩,_⟩:=rU (yR R.out (.slice none 0 0) (int i64 0) (int i64 0) (int i64 0)).1;have C:Hid (∀ X,xQ w X->gL M bh bd bw a c l ts s' er (fZ ls bits 0 []) lu ld w (.returned (.tuple #[aD,int i64 e1])) X):=fun X hX=>dh.out e1 X (by unfold aG;rw[jQ h0]) h0 hX;go_wp2;refine eQ (v:=.tuple #[aD,int i64 e1]) ?_ rfl (C.out _ ?_)
   ·simp[results,results11,go_sem,x0,x1,x2,x3]
   ·exact bs (bs (bs (bs bz.out (by simp) _) (by simp) _) (by simp) _) (by simp) _
open K (Cl)
open K.P (HSt Keeps xX lX vZ qJ HouK DskM vH jZ gZ Ev Sn oA tZ TwoB rV wY qA tX jD sZ xO enc)
structure Stp where
 act:Int
 n:Int
 nm:ByteArray
 bu:Int
 bd:Int
 pn:ByteArray
 q:K.Ds.Qu
 u:Int
 d:Int
 lo:Int
 hi:Int
 bits:List Int
 word:Int
abbrev rY:=List Int × Nat × Int × Int
def kB (l:List K.Ds.aQ):ByteArray:=match l with
 | []=>⟨#[]⟩
 | x::_=>x.1
def uR (l:List K.Ds.aQ) (ts:List (List Int)) (x:Stp):Ev rY :=
 .ask (aG (eA x.u x.d x.lo x.hi l ts x.q).2.2.2 x.bits) (tZ x.pn (K.iU (K.prt l x.q (kB l))).1 (K.iU (K.prt l x.q (kB l))).2 (eA x.u x.d x.lo x.hi l ts x.q).2.1 (eA x.u x.d x.lo x.hi l ts x.q).2.2.1)
  ((fZ (eA x.u x.d x.lo x.hi l ts x.q).1 x.bits 0 []).map fun t=>(t.1,t.2,(eA x.u x.d x.lo x.hi l ts x.q).2.1,(eA x.u x.d x.lo x.hi l ts x.q).2.2.1))
def bD (l:List K.Ds.aQ) (ts:List (List Int)) (x:Stp):Ev rY :=
 if x.act=1 then .opn else if x.act=4 then .pow x.n else if x.act=2 then .pur (1,x.nm,0,x.bu,x.bd) else if x.act=3 then uR l ts x else if x.act=5 then .loo else .oth
def kZ (l:List K.Ds.aQ) (ts:List (List Int)) (s:HSt) (x:Stp):HSt × Sn rY :=
 if x.act=6/\0<=x.n/\x.n<s.disk.length then ({ s with disk:=s.disk.set x.n.toNat x.word },⟨0,none,[]⟩) else gZ (K.Ds.fV l ts) s (bD l ts x)
def vU (l:List K.Ds.aQ) (ts:List (List Int)):HSt->List Stp->HSt × List (Sn rY)
 | s,[]=>(s,[])
 | s,x::xs=>((vU l ts (kZ l ts s x).1 xs).1,(kZ l ts s x).2::(vU l ts (kZ l ts s x).1 xs).2)
theorem afJ (l:List K.Ds.aQ)(ts:List (List Int)):∀ (xs:List Stp) (s:HSt) (x:Stp),vU l ts s (xs++[x])=((kZ l ts (vU l ts s xs).1 x).1,(vU l ts s xs).2++[(kZ l ts (vU l ts s xs).1 x).2])
 | [],s,x=>rfl
 | y::ys,s,x=>by simp only[xF,vU,afJ l ts ys]
theorem lB (l:List K.Ds.aQ)(ts:List (List Int)):∀ (xs:List Stp) (s:HSt),(vU l ts s xs).2.length=xs.length
 | [],_=>rfl
 | y::ys,s=>by simp only[vU,cD,lB l ts ys]
theorem emQ {α β:Type}(f:α->β)(wr:Int)(s:HSt)(p:Int)(e:K.P.En)(a:Option α):gZ wr s (.ask p e (a.map f))=((gZ wr s (.ask p e a)).1,⟨(gZ wr s (.ask p e a)).2.err,(gZ wr s (.ask p e a)).2.told.map f,(gZ wr s (.ask p e a)).2.ents⟩):=by
 cases a <;> simp only[gZ,Option.map_none,Option.map_some] <;> (repeat' split) <;> rfl
def aR (w:World) (B b o:Nat) (x:Stp):Prop :=
 ∃ v0 v1 v2 v3 v4 v5 xa xc nb,(∀ i v,([int i64 x.act,int i64 x.n,.string x.nm,int i64 x.bu,int i64 x.bd,.string x.pn,v0,v1,v2,v3,v4,v5,int i64 x.u,int i64 x.d,int i64 x.lo,int i64 x.hi,.slice xa x.bits.length xc,int i64 x.word]:List Value)[i]? = some v->w.cell? ⟨b,o+i,none⟩=some v) /\
  K.Qm w B x.q v0 v1 v2 v3 v4 v5/\pU w B nb (.slice xa x.bits.length xc) x.bits/\(xa=none->xc=0)/\zX x.lo/\zX x.hi/\zX x.n/\zX x.word/\x.nm.size<=9223372036854775807/\x.pn.size<=9223372036854775807
theorem aR.keep {B b o:Nat}{x:Stp}(h:aR w B b o x)(a:Below B w w')(hB:b<B):aR w' B b o x:=by
 obtain⟨v0,v1,v2,v3,m,y,xa,xc,nb,g,j,k,l⟩:=h;exact⟨v0,v1,v2,v3,m,y,xa,xc,nb,fun i v hi=>(a.cell (p:=⟨b,o+i,none⟩) hB).trans (g i v hi),j.keep a,k.keep a,l⟩
def oM (w:World) (B:Nat) (v:Value) (xs:List Stp):Prop :=
 ∃ a c,v=.slice a xs.length c/\xs.length<=c/\xs.length<=9223372036854775807/\(xs≠[]->∃ b o,a=some ⟨b,o,none⟩/\b<B/\∀ i x,xs[i]? = some x->aR w B b (o+i*18) x)
def mF (w:World) (G:Nat->Prop) (x:Sn rY) (cs:List Value):Prop :=
 ∃ tv ev us lu ld,cs=[int i64 x.err,tv,int i64 us,int i64 lu,int i64 ld,ev] /\
  ((x.told=none/\tv=.slice none 0 0/\us=0/\lu=0/\ld=0) \/
   (∃ (vs:List Int) (n g:Nat),x.told=some (vs,n,lu,ld)/\vs≠[]/\vs.length<=4096/\n<=65536/\tv=.slice (some ⟨g,0,none⟩) vs.length vs.length/\us=(n:Int)/\G g/\K.RowI w g vs)) /\
  w.ownsRow 0 72 5 ev x.ents.length (enc x.ents)/\∀ g,ev.ownBlock=some g->G g
theorem mF.kp {x:Sn rY}{cs:List Value}(h:mF w G x cs)(m:Keeps w w' N)(l:∀ k,G k->¬ N k)(j:∀ k,G k->G' k):mF w' G' x cs:=by
 obtain⟨I,ev,J,z,y,p,a,v,i⟩:=h;refine⟨I,ev,J,z,y,p,?_,qA v m (fun g hg=>l g (i g hg)),fun g hg=>j g (i g hg)⟩;rcases a with a|⟨L,n,g,A,B,C,D,E,F,o,H⟩
 ·exact .inl a
 ·exact .inr ⟨L,n,g,A,B,C,D,E,F,j g o,afZ H m (l g o)⟩
structure HuI (W0 wr:World) (N0 bd bw:Nat) (a:Option Addr) (c:Nat) (l:List K.Ds.aQ) (ts:List (List Int)) (hv ov:Value) (s:HSt) (xs:List (Sn rY)) (M G:Nat->Prop):Prop where
 be:Below N0 W0 wr
 ds:DskM wr bd bw a c s.disk s.left
 bs:N0<=bd/\N0<=bw/\bw<wr.heap.size/\N0<=W0.heap.size
 w64:rV s.disk
 i64:zX s.left
 mm:∀ k,M k->N0<=k/\k<wr.heap.size/\k≠bd/\k≠bw/\¬ G k
 gg:∀ k,G k->N0<=k/\k<wr.heap.size/\k≠bd/\k≠bw
 dn:s.up=false->hv=.pointer none
 up:s.up=true->K.Ds.fV l ts=0/\∃ bh,hv=.pointer (some ⟨bh,0,none⟩)/\M bh/\(s.brk=false->qJ wr M bh bd l ts s.done)/\(s.brk=true->Cl wr bh 5 (.bool true))
 out:∃ css:List (List Value),css.length=xs.length/\wr.ownsRow N0 42 6 ov xs.length css.flatten/\(∀ g,ov.ownBlock=some g->g≠bd/\g≠bw/\¬ G g/\¬ M g)/\∀ (i:Nat) x cs,xs[i]? = some x->css[i]? = some cs->mF wr G x cs
theorem HuI.step {bd:Nat}{l:List K.Ds.aQ}{ov:Value}{s s':HSt}{xs:List (Sn rY)}(h:HuI W0 wr N0 bd bw a c l ts hv ov s xs M G)
  (y:Keeps wr w' (fun k=>M k\/k=bd\/k=bw)) (N:DskM w' bd bw a c s'.disk s'.left) (D:rV s'.disk) (hi:zX s'.left) (A G':Nat->Prop) (H:∀ k,A k->M k\/wr.heap.size<=k/\k<w'.heap.size) (B:∀ k,G' k->G k\/wr.heap.size<=k/\k<w'.heap.size/\¬ A k) (E:∀ k,G k->G' k)
  (dn:s'.up=false->hv' = .pointer none) (up:s'.up=true->K.Ds.fV l ts=0/\∃ bh,hv' = .pointer (some ⟨bh,0,none⟩)/\A bh/\(s'.brk=false->qJ w' A bh bd l ts s'.done)/\(s'.brk=true->Cl w' bh 5 (.bool true))) :
  HuI W0 w' N0 bd bw a c l ts hv' ov s' xs A G':=by
 have P:=y.size;have L:=h.ds.c0.lt;obtain⟨b1,b2,U,b4⟩:=h.bs;have Q:=h.be.size;refine⟨⟨y.os.trans h.be.os,y.tape.trans h.be.tape,y.output.trans h.be.output,by omega,fun k kk=>(y.block k (by omega) ?_).trans (h.be.block k kk)⟩,N,⟨b1,b2,by omega,b4⟩,D,hi,fun k m=>?_,fun k m=>?_,dn,up,?_⟩
 ·rintro(m|m|m)
  ·have:=(h.mm k m).1;omega
  ·omega
  ·omega
 ·rcases H k m with F|F
  ·obtain⟨p,z,v,o,T⟩:=h.mm k F
   refine⟨p,by omega,v,o,fun g=>?_⟩;rcases B k g with j|j
   ·exact T j
   ·exact j.2.2 m
  ·refine⟨by omega,F.2,by omega,by omega,fun g=>?_⟩
   rcases B k g with j|j
   ·have:=(h.gg k j).2.1;omega
   ·exact j.2.2 m
 ·rcases B k m with j|j
  ·obtain⟨p,z,v,o⟩:=h.gg k j
   exact⟨p,by omega,v,o⟩
  ·exact⟨by omega,j.2.1,by omega,by omega⟩
 ·obtain⟨C,R,I,J,S⟩:=h.out
  refine⟨C,R,qA I y (fun g hg=>?_),fun g hg=>?_,fun i x cs hx hc=>(S i x cs hx hc).kp y (fun k g=>?_) E⟩
  ·obtain⟨p,z,v,o⟩:=J g hg
   rintro(m|m|m)
   ·exact o m
   ·exact p m
   ·exact z m
  ·obtain⟨p,z,v,o⟩:=J g hg
   have O:=(tX I hg).2;refine⟨p,z,fun j=>?_,fun m=>?_⟩
   ·rcases B g j with g2|g2
    ·exact v g2
    ·omega
   ·rcases H g m with g2|g2
    ·exact o g2
    ·omega
  ·obtain⟨p,z,v,o⟩:=h.gg k g
   rintro(m|m|m)
   ·exact(h.mm k m).2.2.2.2 g
   ·exact v m
   ·exact o m
theorem HuI.at {bd:Nat}{l:List K.Ds.aQ}{ov:Value}{s:HSt}{xs:List (Sn rY)}(h:HuI W0 wr N0 bd bw a c l ts hv ov s xs M G)(g:xQ wr w'):HuI W0 w' N0 bd bw a c l ts hv ov s xs M G :=
 h.step (xX g) (h.ds.at g) h.w64 h.i64 M G (fun _ m=>.inl m) (fun _ m=>.inl m) (fun _ m=>m) h.dn (fun u=>by
  obtain⟨e,i,j,k,o,p⟩:=h.up u;exact⟨e,i,j,k,fun x=>(o x).kp (K:=fun _=>False) (xX g) (fun _ _ h=>h),fun x=>(p x).at g⟩)
theorem HuI.snoc {bd:Nat}{l:List K.Ds.aQ}{ov ov':Value}{s:HSt}{xs:List (Sn rY)}(h:HuI W0 wr N0 bd bw a c l ts hv ov s xs M G){x:Sn rY}{cs:List Value}(U:mF wr G x cs)(J:ov' = .slice (some ⟨g,0,none⟩) (xs.length+1) cap)
  (p:List (List Value)) (N:p.length=xs.length) (V:wr.ownsRow N0 42 6 ov xs.length p.flatten) (D:∀ g,ov.ownBlock=some g->g≠bd/\g≠bw/\¬ G g/\¬ M g) (X:∀ (i:Nat) x cs,xs[i]? = some x->p[i]? = some cs->mF wr G x cs)
  (C:wr.grownBy w' ov.ownBlock) (R:w'.ownsRow N0 42 6 ov' (xs.length+1) (p.flatten++cs)) (H:ov.ownBlock=some g\/wr.heap.size<=g) :
  HuI W0 w' N0 bd bw a c l ts hv ov' s (xs++[x]) M G:=by
 have o:Keeps wr w' (fun k=>ov.ownBlock=some k):=⟨C.os,C.tape,C.output,C.size,fun k o hn=>C.block k o (fun e=>hn e.symm)⟩;have S:=o.size;have L:∀ k,M k->¬ ov.ownBlock=some k:=fun k m e=>(D k e).2.2.2 m;have B:∀ k,G k->¬ ov.ownBlock=some k:=fun k m e=>(D k e).2.2.1 m;obtain⟨b1,b2,Z,b4⟩:=h.bs;have T:=h.be.size;refine⟨⟨o.os.trans h.be.os,o.tape.trans h.be.tape,o.output.trans h.be.output,by omega,fun k kk=>(o.block k (by omega) (fun e=>?_)).trans (h.be.block k kk)⟩,h.ds.kp o (fun e=>(D _ e).1 rfl) (fun e=>(D _ e).2.1 rfl),⟨b1,b2,by omega,b4⟩,h.w64,h.i64,fun k m=>?_,fun k m=>?_,h.dn,fun u=>?_,p++[cs],by simp[N],?_,?_,?_⟩
 ·have:=(tX V e).1;omega
 ·obtain⟨E,I,F⟩:=h.mm k m
  exact⟨E,by omega,F⟩
 ·obtain⟨E,I,F⟩:=h.gg k m
  exact⟨E,by omega,F⟩
 ·obtain⟨e,O,E,I,F,Y⟩:=h.up u
  exact⟨e,O,E,I,fun z=>(F z).kp o L,fun z=>K.P.wV (Y z) o (L _ I)⟩
 ·have:=R
  rw[sY,oK,List.flatten_append];simpa using this
 ·intro k v
  rw[J] at v;simp only[Value.ownBlock,aZ] at v;subst v;rcases H with H|H
  ·exact D g H
  ·have Q:=h.ds.c0.lt
   exact⟨by omega,by omega,fun m=>by have:=(h.gg g m).2.1;omega,fun m=>by have:=(h.mm g m).2.1;omega⟩
 ·intro i y ds A j
  by_cases hi:i<xs.length
  ·rw[gO hi] at A
   rw[gO (by omega)] at j;exact(X i y ds A j).kp o B (fun _ m=>m)
  ·have e:i=xs.length:=by
    have:=(fQ.1 A).1;rw[sY,oK] at this;omega
   subst e;rw[mH (vQ _)] at A;rw[mH (by omega)] at j;rw[N] at j;simp only[iI,List.getElem?_cons_zero,aZ] at A j;subst A j;exact U.kp o B (fun _ m=>m)
open K (Cl)
open K.P (HSt Keeps xX lX vZ qJ HouK DskM vH jZ gZ Ev Sn oA tZ TwoB rV wY qA tX jD sZ xO enc eB)
theorem uL:(prog.info? 2).map (fun i=>(i.zero,i.size,i.bytes))=some (some (int i64 0),1,8):=by kernel_rfl
theorem bxJ:(prog.info? 42).map (fun i=>(i.zero,i.size,i.bytes))=some (some (.agg #[int i64 0,.slice none 0 0,int i64 0,int i64 0,int i64 0,.slice none 0 0]),6,80):=by kernel_rfl
def emX (l:List K.Ds.aQ) (ts:List (List Int)) (words:List Int) (xs:List Stp) (w:World):Ending->World->Prop:=fun e w' =>
 ∃ W0 bd bw a c hv ov s os M G,e=.returned (.tuple #[ov,.slice a words.length c,.bool true])/\vU l ts ⟨words,-1,false,false,[]⟩ xs=(s,os)/\xQ w w'/\HuI W0 w' (w.heap.size+1) bd bw a c l ts hv ov s os M G
theorem emZ (h:W.ownsRow base 2 1 v words.length (words.map (int i64)))(m:v≠.slice none 0 0):∃ a c bw,v=.slice a words.length c/\a=some ⟨bw,0,none⟩/\base<=bw/\bw<W.heap.size/\DskM (W.alloc (.cells #[v,int i64 (-1),.bool false] 48)) W.heap.size bw a c words (-1):=by
 rcases h.2 with⟨o,_⟩|⟨g,cap,cur,rfl,z,hc,A,B,C,D⟩
 ·exact absurd o m
 ·have k:=(mY.1 hc).1
  refine⟨_,cap,g,rfl,rfl,z,k,?_⟩;have j:=Bx.new W [.slice (some ⟨g,0,none⟩) words.length cap,int i64 (-1),.bool false] 48 rfl;refine⟨j 0 _ rfl,j 1 _ rfl,j 2 _ rfl,fun _=>rfl,fun i x hi=>?_,A,by omega⟩
  have l:Cl W g i (int i64 x):=by
   refine⟨?_,?_,k⟩
   ·have p:(words.map (Value.int .i64))[i]? = some (int i64 x):=by rw[mV,hi];rfl
    have y:=h.cells (g:=g) rfl i _ p;have e:(⟨g,0,none⟩:Addr).add i=⟨g,i,none⟩:=by unfold Addr.add;split <;> simp_all
    rwa [e] at y
   ·simp[World.frozen?,hc]
  exact l.at (ba _ _)
theorem emJ (s:HSt)(e:K.P.En):(jZ s e).1.disk.length=s.disk.length:=by
 unfold jZ
 repeat' split
 all_goals first|rfl|exact K.P.pW (d1:=_) (l1:=_) (ok:=_) rfl
theorem enQ {α:Type}(wr:Int)(s:HSt)(e:Ev α):(gZ wr s e).1.disk.length=s.disk.length:=by
 cases e <;> simp only[gZ] <;> (repeat' split) <;> first|rfl|exact emJ _ _
theorem enX (l:List K.Ds.aQ)(ts:List (List Int))(s:HSt)(x:Stp):(kZ l ts s x).1.disk.length=s.disk.length:=by
 unfold kZ;split
 ·simp
 ·exact enQ _ _ _
theorem agQ (l:List K.Ds.aQ)(ts:List (List Int)):∀ (xs:List Stp) (s:HSt),(vU l ts s xs).1.disk.length=s.disk.length
 | [],_=>rfl
 | x::xs,s=>by simp only[vU];rw[agQ l ts xs,enX]
theorem yI (w:World)(G:Nat->Prop)(er:Int):mF w G ⟨er,none,[]⟩ [int i64 er,.slice none 0 0,int i64 0,int i64 0,int i64 0,.slice none 0 0] :=
 ⟨_,_,_,_,_,rfl,.inl ⟨rfl,rfl,rfl,rfl,rfl⟩,⟨rfl,.inl ⟨rfl,rfl⟩⟩,fun g hg=>by cases hg⟩
open K (Cl)
open K.P (HSt Keeps xX lX vZ qJ HouK DskM vH jZ gZ Ev Sn oA tZ TwoB rV wY qA tX jD sZ xO enc eB nX jL oJ wrs nrm zZ tU zJ nU octs zY uT aT bT)
theorem enZ (h:n<18446744073709551616):zX (tU n):=by
 unfold tU zX;split <;> omega
theorem enJ (s:ByteArray):rV (zJ (nU s)):=by
 intro x a;unfold zJ at a;obtain⟨w,_,rfl⟩:=iJ.1 a;have h:=uT (aT (bT s) w);have g:(octs (nU s) w).length=8:=by simp[octs]
 rw[g] at h;exact enZ (by simpa using h)
theorem vF (h:Rt.rQ u d=true):zX u/\zX d:=by
 unfold Rt.rQ Rt.mx at h;simp only[dJ] at h;unfold zX;omega
theorem eoQ {done:List K.P.En}{e:K.P.En}(h:zZ done (nrm e)=0):rV (oJ (nrm e)):=by
 obtain⟨k,l,m,i⟩:=K.P.fD (K.P.sS h).1;have g:=vF i.1
 have j:zX (nrm e).2.2.1:=by
  by_cases c:e.1=3
  ·have e1:nrm e=e:=by simp[nrm,c]
   rw[e1] at h ⊢;unfold zZ at h;split at h
   ·exact absurd h (by assumption)
   ·split at h
    ·cases h
    ·split at h
     ·rw[zQ (by omega)] at h;cases h
     ·rw[zQ (by omega)] at h
      split at h
      ·cases h
      ·rename_i c3
       unfold zX;omega
  ·have e1:(nrm e).2.2.1=0:=by simp[nrm,c]
   rw[e1];exact⟨by omega,by omega⟩
 intro x a;simp only[oJ,aV,kJ,cI,dI] at a;rcases a with(rfl|rfl|rfl|rfl|rfl)|a
 ·omega
 ·omega
 ·exact j
 ·exact g.1
 ·exact g.2
 ·exact enJ _ x a
theorem eoX (h:rV disk):∀ {ws:List (Nat × Int)},(∀ p∈ws,zX p.2)->rV (jL disk ws):=by
 intro ws
 induction ws generalizing disk with
 | nil=>intro _;exact h
 | cons p ws ih =>
  intro g;refine ih (disk:=disk.set p.1 p.2) ?_ (fun q hq=>g q (by simp[hq]));intro x a;rcases mI a with a|rfl
  ·exact h x a
  ·exact g p (by simp)
theorem eoZ {e:K.P.En}(h:rV (oJ e)):∀ p∈wrs n e,zX p.2:=by
 intro p a;simp only[wrs,kJ,aV,iJ,lK,cI,dI] at a;rcases a with rfl|⟨j,g,rfl⟩|rfl
 ·exact⟨by simp,by simp⟩
 ·refine h _ ?_
  have i:=K.P.pN e;rw[List.getD_eq_getElem?_getD,nZ (by omega)];simp
 ·exact⟨by simp,by simp⟩
theorem eoJ :∀ {left:Int},zX left->zX (nX disk left ws).2.1:=by
 induction ws generalizing disk with
 | nil=>intro l h;exact h
 | cons p ws ih =>
  intro l h;obtain⟨a,x⟩:=p;simp only[nX];split
  ·exact⟨by simp,by simp⟩
  ·refine ih ?_
   unfold zX at h ⊢;split <;> omega
theorem agX {s:HSt}{e:K.P.En}(h:rV s.disk)(i:zX s.left):rV (jZ s e).1.disk/\zX (jZ s e).1.left:=by
 unfold jZ;split
 ·exact⟨h,i⟩
 ·split
  ·exact⟨h,i⟩
  ·rename_i c
   have v:=eoQ (by simpa using c);obtain⟨g,k,ok,a⟩:∃ g k ok,nX s.disk s.left (wrs s.done.length (nrm e))=(g,k,ok):=⟨_,_,_,rfl⟩;obtain⟨m,y,l,_⟩:=K.P.ayJ a
   have o:rV g:=by
    rw[l];exact eoX h (fun p a=>eoZ v p (pG a))
   have j:zX k:=by
    have:=eoJ (disk:=s.disk) (ws:=wrs s.done.length (nrm e)) i;rw[a] at this;exact this
   rw[a];split <;> exact⟨o,j⟩
theorem byQ {s:HSt}{e:K.P.En}:(jZ s e).1.up=s.up:=by
 unfold jZ
 repeat' split
 all_goals rfl
theorem epQ {α:Type}{s s':HSt}{e:K.P.En}{tl:Option α}{y:Sn α}(a:gZ 0 s (.ask p e tl)=(s',y))(h:rV s.disk)(g:zX s.left):rV s'.disk/\zX s'.left/\s'.up=s.up:=by
 obtain⟨d1,d2⟩:=agX (e:=e) h g;have i:=byQ (s:=s) (e:=e);simp only[gZ] at a
 repeat' split at a
 all_goals
  simp only[cQ] at a;obtain⟨rfl,_⟩:=a
  first|exact⟨h,g,rfl⟩|exact⟨d1,d2,i⟩
theorem byX {α:Type}(s:HSt)(p:Int)(e:K.P.En)(a:Option α):∃ s' er t2,gZ 0 s (.ask p e a)=(s',⟨er,t2,[]⟩):=by
 simp only[gZ]
 repeat' split
 all_goals exact⟨_,_,_,rfl⟩
theorem byZ {α:Type}{s s':HSt}{e:K.P.En}{tl t2:Option α}(h:gZ 0 s (.ask p e tl)=(s',⟨er,t2,[]⟩))(a:s.up=true):(er≠0->t2=none)/\(er=0->t2=tl):=by
 simp only[gZ,a] at h;rw[zQ (by simp)] at h;split at h
 ·simp only[cQ,Sn.mk.injEq] at h
  obtain⟨_,rfl,rfl,_⟩:=h;exact⟨fun _=>rfl,fun h=>by cases h⟩
 ·split at h
  ·rename_i hp
   simp only[cQ,Sn.mk.injEq] at h;obtain⟨_,rfl,rfl,_⟩:=h;exact⟨fun _=>rfl,fun h=>absurd h hp⟩
  ·split at h
   ·rename_i hp
    simp only[cQ,Sn.mk.injEq] at h;obtain⟨_,rfl,rfl,_⟩:=h;exact⟨fun _=>rfl,fun h=>absurd h hp⟩
   ·split at h
    ·simp only[cQ,Sn.mk.injEq] at h
     obtain⟨_,rfl,rfl,_⟩:=h;exact⟨fun _=>rfl,fun h=>by cases h⟩
    ·simp only[cQ,Sn.mk.injEq] at h
     obtain⟨_,rfl,rfl,_⟩:=h;exact⟨fun h=>absurd rfl h,fun _=>rfl⟩
theorem byJ {l:List K.Ds.aQ}(h:K.Ds.fV l ts=0):∃ nm0 sz0,l[0]? = some (nm0,sz0)/\kB l=nm0:=by
 have a:=(K.Ds.nI (K.Ds.xM h).1).1;cases l with
 | nil=>simp at a
 | cons c l=>exact⟨c.1,c.2,rfl,rfl⟩
theorem bzQ {l:List K.Ds.aQ}{S s':HSt}{x:Stp}{e1:Int}{ls:List (List Pt)}{t2:Option (List Int × Nat)}(a:x.act=3)(k:K.Ds.fV l ts=0)(i:kB l=nm0)(m:K.iU (K.prt l x.q nm0)=(z,ez))(g:eA x.u x.d x.lo x.hi l ts x.q=(ls,lu,ld,e1))
  (j:gZ 0 S (.ask (aG e1 x.bits) (tZ x.pn z ez lu ld) (fZ ls x.bits 0 []))=(s',⟨er,t2,[]⟩)):kZ l ts S x=(s',⟨er,t2.map fun t=>(t.1,t.2,lu,ld),[]⟩):=by
 unfold kZ bD;rw[zQ (fun h=>by omega),zQ (by omega),zQ (by omega),zQ (by omega),jQ a];unfold uR;rw[i,m,g,k,emQ,j]
theorem bR {s:HSt}(a:s.up=true)(g:s.brk=false):(⟨s.disk,s.left,true,false,s.done⟩:HSt)=s:=by
 cases s;simp only at a g;subst a g;rfl
theorem HuI.call {bd:Nat}{l:List K.Ds.aQ}{ov:Value}{s s':HSt}{xs:List (Sn rY)}(h:HuI W0 wr N0 bd bw a c l ts hv ov s xs M G)
  (j:Keeps wr w' (fun k=>M k\/k=bd\/k=bw)) (E:DskM w' bd bw a c s'.disk s'.left) (p:rV s'.disk) (hi:zX s'.left) (i G':Nat->Prop) (z:∀ k,i k->M k\/wr.heap.size+2<=k/\k<w'.heap.size) (B:∀ k,G' k->G k\/wr.heap.size+2<=k/\k<w'.heap.size/\¬ i k) (v:∀ k,G k->G' k)
  (dn:s'.up=false->hv' = .pointer none) (up:s'.up=true->K.Ds.fV l ts=0/\∃ bh,hv' = .pointer (some ⟨bh,0,none⟩)/\i bh/\(s'.brk=false->qJ w' i bh bd l ts s'.done)/\(s'.brk=true->Cl w' bh 5 (.bool true))) (g:Keeps w' w3 (fun k=>k=wr.heap.size+1)) :
  HuI W0 w3 N0 bd bw a c l ts hv' ov s' xs i G':=by
 have C:=h.ds.c0.lt;have D:=h.bs.2.2.1;have H:=g.size;have F:=j.size
 have o:∀ k,i k->¬ k=wr.heap.size+1:=fun k m e=>by
  rcases z k m with m|m
  ·have:=(h.mm k m).2.1;omega
  ·omega
 have y:Keeps wr w3 (fun k=>M k\/k=bd\/k=bw) :=
  ⟨g.os.trans j.os,g.tape.trans j.tape,g.output.trans j.output,by omega,fun k k1 k2=>(g.block k (by omega) (by omega)).trans (j.block k k1 k2)⟩
 refine h.step y (E.kp g (by omega) (by omega)) p hi i G' (fun k m=>(z k m).imp id (fun m=>by omega)) (fun k m=>(B k m).imp id (fun m=>⟨by omega,by omega,m.2.2⟩)) v dn (fun u=>?_);obtain⟨e,bh,I,A,J,L⟩:=up u;exact⟨e,bh,I,A,fun x=>(J x).kp g o,fun x=>K.P.wV (L x) g (o bh A)⟩
