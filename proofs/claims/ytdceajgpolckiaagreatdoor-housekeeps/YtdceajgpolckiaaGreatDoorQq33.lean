import Derived.Test.YtdceajgpolckiaaGreatDoorQq32
import Derived.Deep.DeepCutAuto
open Go.Proofs.Tryz
set_option linter.unusedSimpArgs false
set_option maxHeartbeats 16000000
set_option maxRecDepth 100000
namespace Go.Proofs.YtdceajgpolckiaaGreatDoor
namespace K.P
open Go.RowKit K.Ds
theorem wQ.cells {w:World}{b:Nat}{x0 x1 x2 x3 x4 x5 x6 x7 x8:Int}(h:wQ w b [x0,x1,x2,x3,x4,x5,x6,x7,x8]):w.cell? ⟨b,0,none⟩=some (.int .i64 x0)/\w.cell? ⟨b,1,none⟩=some (.int .i64 x1)/\w.cell? ⟨b,2,none⟩=some (.int .i64 x2)/\w.cell? ⟨b,3,none⟩=some (.int .i64 x3)/\w.cell? ⟨b,4,none⟩=some (.int .i64 x4)/\w.cell? ⟨b,5,none⟩=some (.int .i64 x5)/\w.cell? ⟨b,6,none⟩=some (.int .i64 x6)/\w.cell? ⟨b,7,none⟩=some (.int .i64 x7)/\w.cell? ⟨b,8,none⟩=some (.int .i64 x8) :=
 ⟨(h.2 0 _ rfl).c,(h.2 1 _ rfl).c,(h.2 2 _ rfl).c,(h.2 3 _ rfl).c,(h.2 4 _ rfl).c,(h.2 5 _ rfl).c,(h.2 6 _ rfl).c,(h.2 7 _ rfl).c,(h.2 8 _ rfl).c⟩
theorem wQ.range {w:World}{b:Nat}{x0 x1 x2 x3 x4 x5 x6 x7 x8:Int}(h:wQ w b [x0,x1,x2,x3,x4,x5,x6,x7,x8]):w.rangeAt b 0 [.int .i64 x0,.int .i64 x1,.int .i64 x2,.int .i64 x3,.int .i64 x4,.int .i64 x5,.int .i64 x6,.int .i64 x7,.int .i64 x8]:=by
 intro j v hj
 match j,hj with
 | 0,hj | 1,hj | 2,hj | 3,hj | 4,hj | 5,hj | 6,hj | 7,hj | 8,hj=>cases hj;exact(h.2 _ _ rfl).c
theorem aqZ (l:List Nat):(eU l).size=l.length:=by simp[eU,ByteArray.size]
theorem aqJ (x5 x6 x7 x8:Int):(bA [x5,x6,x7,x8]).length<=32:=by
 have h:∀ x,((yU 8 (nG x)).filter (·≠0)).length<=8:=fun x=>uQ (List.length_filter_le _ _) (by rw[qR];exact vQ _);have h5:=h x5;have h6:=h x6;have h7:=h x7;have h8:=h x8;simp only[bA,wI,List.flatMap_nil,xD,zJ];omega
theorem arQ (x0 x1 x2 x3 x4 x5 x6 x7 x8:Int):rvl [x0,x1,x2,x3,x4,x5,x6,x7,x8]=.agg #[.int .i64 x0,.int .i64 x1,.int .i64 x2,.int .i64 x3,.int .i64 x4,.int .i64 x5,.int .i64 x6,.int .i64 x7,.int .i64 x8]:=rfl
theorem dgZ {W w3:World}(hb:Below (W.alloc (.cells #[.int .i64 0,.string ⟨#[]⟩,.int .i64 0,.int .i64 0,.int .i64 0] 53)).drew.heap.size (W.alloc (.cells #[.int .i64 0,.string ⟨#[]⟩,.int .i64 0,.int .i64 0,.int .i64 0] 53)).drew w3):FivB w3 W.heap.size (.int .i64 0) (.string ⟨#[]⟩) (.int .i64 0) (.int .i64 0) (.int .i64 0) :=
 ((FivB.new W _ _ _ _ _ 53 _ rfl).below (aQ _ _).drew).below hb
theorem dgJ {w:World}{b:Nat}{x0 x1 x2 x3 x4 x5 x6 x7 x8:Int}(h:wQ w b [x0,x1,x2,x3,x4,x5,x6,x7,x8]):w.cell? ⟨b,0,none⟩=some (.int .i64 x0)/\w.cell? ⟨b,1,none⟩=some (.int .i64 x1)/\w.cell? ⟨b,2,none⟩=some (.int .i64 x2)/\w.cell? ⟨b,3,none⟩=some (.int .i64 x3)/\w.cell? ⟨b,4,none⟩=some (.int .i64 x4)/\w.cell? ⟨b,5,none⟩=some (.int .i64 x5)/\w.cell? ⟨b,6,none⟩=some (.int .i64 x6)/\w.cell? ⟨b,7,none⟩=some (.int .i64 x7)/\w.cell? ⟨b,8,none⟩=some (.int .i64 x8)/\w.rangeAt b 0 [.int .i64 x0,.int .i64 x1,.int .i64 x2,.int .i64 x3,.int .i64 x4,.int .i64 x5,.int .i64 x6,.int .i64 x7,.int .i64 x8] :=
 have k:=h.cells
 ⟨k.1,k.2.1,k.2.2.1,k.2.2.2.1,k.2.2.2.2.1,k.2.2.2.2.2.1,k.2.2.2.2.2.2.1,k.2.2.2.2.2.2.2.1,k.2.2.2.2.2.2.2.2,h.range⟩
theorem bR {w:World}{b g:Nat}{x0 x1 x2 x3 x4 x5 x6 x7 x8:Int}(h:wQ w b [x0,x1,x2,x3,x4,x5,x6,x7,x8])(hne:g≠b)(u0 u1 u2 u3 u4:Value):wQ (((((w.setCell ⟨g,0,none⟩ u0).setCell ⟨g,1,none⟩ u1).setCell ⟨g,2,none⟩ u2).setCell ⟨g,3,none⟩ u3).setCell ⟨g,4,none⟩ u4) b [x0,x1,x2,x3,x4,x5,x6,x7,x8] :=
 ((((h.oth hne _).oth hne _).oth hne _).oth hne _).oth hne _
theorem arX {w:World}{b g:Nat}{x0 x1 x2 x3 x4 x5 x6 x7 x8:Int}{a0 a1 a2 a3 a4:Value}(h:wQ w b [x0,x1,x2,x3,x4,x5,x6,x7,x8])(k:FivB w g a0 a1 a2 a3 a4):w.cell? ⟨g,0,none⟩=some a0/\w.cell? ⟨g,1,none⟩=some a1/\w.cell? ⟨g,2,none⟩=some a2/\w.cell? ⟨g,3,none⟩=some a3/\w.cell? ⟨g,4,none⟩=some a4/\w.rangeAt b 0 [.int .i64 x0,.int .i64 x1,.int .i64 x2,.int .i64 x3,.int .i64 x4,.int .i64 x5,.int .i64 x6,.int .i64 x7,.int .i64 x8] :=
 ⟨k.c0,k.c1,k.c2,k.c3,k.c4,h.range⟩
theorem xC {w:World}{b g:Nat}{a0 a1 a2 a3 a4:Value}(h:FivB w b a0 a1 a2 a3 a4)(hne:g≠b)(u0 u1 u2 u3 u4:Value):FivB (((((w.setCell ⟨g,0,none⟩ u0).setCell ⟨g,1,none⟩ u1).setCell ⟨g,2,none⟩ u2).setCell ⟨g,3,none⟩ u3).setCell ⟨g,4,none⟩ u4) b a0 a1 a2 a3 a4 :=
 h.gb (sQ (sQ (sQ (sQ (sQ (dX _ (some g)) _ _) _ _) _ _) _ _) _ _) (by simpa using fun e=>hne e.symm)
theorem wK {w:World}{b:Nat}{a0 a1 a2 a3 a4:Value}(h:FivB w b a0 a1 a2 a3 a4)(u0 u1 u2 u3 u4:Value):FivB (((((w.setCell ⟨b,0,none⟩ u0).setCell ⟨b,1,none⟩ u1).setCell ⟨b,2,none⟩ u2).setCell ⟨b,3,none⟩ u3).setCell ⟨b,4,none⟩ u4) b u0 u1 u2 u3 u4:=by
 obtain⟨c0,c1,c2,c3,c4,f0,f1,f2,f3,f4,hl⟩:=h;constructor <;> simp[nM,oM,jY,c0,c1,c2,c3,c4,f0,f1,f2,f3,f4,hl,go_sem]
theorem dhQ (x0 x1 x2 x3 x4 x5 x6 x7 x8:Int)(w:World)(e:En)(he:(x1,eU (bA [x5,x6,x7,x8]),x2,x3,x4)=e)(r:Bool)(hr:decide ([x0,x1,x2,x3,x4,x5,x6,x7,x8]=vZ e)=r) :
  Calls prog 95 #[.agg #[.int .i64 x0,.int .i64 x1,.int .i64 x2,.int .i64 x3,.int .i64 x4,.int .i64 x5,.int .i64 x6,.int .i64 x7,.int .i64 x8]] w fun x w'=>x=.returned (.tuple #[ev e,.bool r])/\Below w.heap.size w w':=by
 obtain⟨nm,hnm⟩:∃ nm,eU (bA [x5,x6,x7,x8])=nm:=⟨_,rfl⟩;rw[hnm] at he;subst he;have hs:nm.size<=32:=by rw[<-hnm,aqZ];exact aqJ _ _ _ _
 have kn:∀ W,wQ W w.heap.size [x0,x1,x2,x3,x4,x5,x6,x7,x8]->Calls prog 151 #[.agg #[.int .i64 x0,.int .i64 x1,.int .i64 x2,.int .i64 x3,.int .i64 x4,.int .i64 x5,.int .i64 x6,.int .i64 x7,.int .i64 x8]] W fun e w'=>e=.returned (.string nm)/\Below W.heap.size W w'/\wQ w' w.heap.size [x0,x1,x2,x3,x4,x5,x6,x7,x8]:=fun W hW=>(dgQ x0 x1 x2 x3 x4 x5 x6 x7 x8 W).mono (by rintro e w' ⟨h1,h2⟩;rw[hnm] at h1;exact⟨h1,h2,hW.at h2⟩);clear hnm;obtain⟨y0,y1,y2,y3,y4,y5,y6,y7,y8,hy⟩:=qO (rN (x1,nm,x2,x3,x4));rw[hy] at hr
 have kr:∀ W,Calls prog 97 #[.agg #[.int .i64 x1,.string nm,.int .i64 x2,.int .i64 x3,.int .i64 x4]] W fun x w'=>x=.returned (.agg #[.int .i64 y0,.int .i64 y1,.int .i64 y2,.int .i64 y3,.int .i64 y4,.int .i64 y5,.int .i64 y6,.int .i64 y7,.int .i64 y8])/\Below W.heap.size W w':=fun W=>by
  have h:=anX (x1,nm,x2,x3,x4) hs W;rw[hy,arQ] at h;exact h
 clear hy;have hq:=eq9 (x0:=x0) (x1:=x1) (x2:=x2) (x3:=x3) (x4:=x4) (x5:=x5) (x6:=x6) (x7:=x7) (x8:=x8) (y0:=y0) (y1:=y1) (y2:=y2) (y3:=y3) (y4:=y4) (y5:=y5) (y6:=y6) (y7:=y7) (y8:=y8);simp only[hr] at hq;clear hr;obtain⟨W,hW⟩:∃ W,(w.alloc (.cells #[.int .i64 x0,.int .i64 x1,.int .i64 x2,.int .i64 x3,.int .i64 x4,.int .i64 x5,.int .i64 x6,.int .i64 x7,.int .i64 x8] 187)).alloc (.cells #[.int .i64 0,.string ⟨#[]⟩,.int .i64 0,.int .i64 0,.int .i64 0] 53)=W:=⟨_,rfl⟩;have hWs:W.heap.size=w.heap.size+1+1:=by rw[<-hW];simp
 have hbW:Below w.heap.size w W:=hW▸bal (ba _ _) _;have HN:wQ W w.heap.size [x0,x1,x2,x3,x4,x5,x6,x7,x8]:=hW▸(wQ.new _ _ _ _ _ _ _ _ _ 187 rfl).at (ba _ _);have HR:Hid (FivB W (w.heap.size+1) (.int .i64 0) (.string ⟨#[]⟩) (.int .i64 0) (.int .i64 0) (.int .i64 0)):=hW▸FivB.new _ _ _ _ _ _ 53 _ (by simp);obtain⟨c0,c1,c2,c3,c4,c5,c6,c7,c8⟩:=HN.cells;have hrg:W.drew.rangeAt w.heap.size 0 [.int .i64 x0,.int .i64 x1,.int .i64 x2,.int .i64 x3,.int .i64 x4,.int .i64 x5,.int .i64 x6,.int .i64 x7,.int .i64 x8]:=HN.drew.range;have hu6:=underlying187;have hi6:(prog.info? 187).map (·.size)=some ([.int .i64 x0,.int .i64 x1,.int .i64 x2,.int .i64 x3,.int .i64 x4,.int .i64 x5,.int .i64 x6,.int .i64 x7,.int .i64 x8]:List Value).length:=by kernel_rfl
 have HNE:Hid (W.heap.size≠w.heap.size):=by show _≠_;omega
 have H1:Hid (wQ W.drew w.heap.size [x0,x1,x2,x3,x4,x5,x6,x7,x8]):=HN.drew;have H2:Hid (∀ o,wQ (W.alloc o).drew w.heap.size [x0,x1,x2,x3,x4,x5,x6,x7,x8]):=fun o=>(HN.at (ba _ _)).drew;have HWS:Hid (W.heap.size=w.heap.size+1+1):=hWs;clear hWs;go_enter func95,ntmps95;go_wp2;clear hW HN
 go_region_held3 (fun w'=>w'.cell? ⟨w.heap.size,0,none⟩=some (.int .i64 x0)/\w'.cell? ⟨w.heap.size,1,none⟩=some (.int .i64 x1)/\w'.cell? ⟨w.heap.size,2,none⟩=some (.int .i64 x2)/\w'.cell? ⟨w.heap.size,3,none⟩=some (.int .i64 x3)/\w'.cell? ⟨w.heap.size,4,none⟩=some (.int .i64 x4)/\w'.cell? ⟨w.heap.size,5,none⟩=some (.int .i64 x5)/\w'.cell? ⟨w.heap.size,6,none⟩=some (.int .i64 x6)/\w'.cell? ⟨w.heap.size,7,none⟩=some (.int .i64 x7)/\w'.cell? ⟨w.heap.size,8,none⟩=some (.int .i64 x8)/\w'.rangeAt w.heap.size 0 [.int .i64 x0,.int .i64 x1,.int .i64 x2,.int .i64 x3,.int .i64 x4,.int .i64 x5,.int .i64 x6,.int .i64 x7,.int .i64 x8])
  ((refine dgJ ?_;first|with_reducible exact H1.out|with_reducible exact H2.out _|with_reducible exact hN3|with_reducible exact hN3.at (ba _ _)|(with_reducible exact five_oth hN3 _ _ _ _ _ _)|(with_reducible exact bR hN3 HNE.out _ _ _ _ _)))
  (first
   | (go_at_call 151;refine(kn _ ?_).mono ?_;(with_reducible exact H2.out _);rintro x3 w3 ⟨rfl,hb3,hN3⟩;obtain⟨z0,z1,z2,z3,z4,z5,z6,z7,z8⟩:=hN3.cells;have zr:=hN3.range;obtain⟨s0,s1,s2,s3,s4,g0,g1,g2,g3,g4,hsl⟩:=dgZ hb3)
   | (go_at_call 151;refine(kn _ ?_).mono ?_;(with_reducible exact H1.out);rintro x3 w3 ⟨rfl,hb3,hN3⟩;obtain⟨z0,z1,z2,z3,z4,z5,z6,z7,z8⟩:=hN3.cells;have zr:=hN3.range))
 ·have hsz3:W.heap.size<=w3.heap.size:=by have:=hb3.size;simp at this;omega
  have hb3':Below w.heap.size w w3:=bt hbW.drew hb3;have HR3:=(HR.out.below (aQ _ _).drew).below hb3;have hg1:w3.heap.size≠w.heap.size+1:=by have:=HWS.out;omega
  have XN0:wQ (w3.alloc (.cells #[.int .i64 x1,.string nm,.int .i64 x2,.int .i64 x3,.int .i64 x4] 53)) w.heap.size [x0,x1,x2,x3,x4,x5,x6,x7,x8]:=hN3.at (ba _ _);have XF0:FivB (w3.alloc (.cells #[.int .i64 x1,.string nm,.int .i64 x2,.int .i64 x3,.int .i64 x4] 53)) w3.heap.size (.int .i64 x1) (.string nm) (.int .i64 x2) (.int .i64 x3) (.int .i64 x4):=FivB.new w3 _ _ _ _ _ 53 _ rfl;have XR0:FivB (w3.alloc (.cells #[.int .i64 x1,.string nm,.int .i64 x2,.int .i64 x3,.int .i64 x4] 53)) (w.heap.size+1) (.int .i64 0) (.string ⟨#[]⟩) (.int .i64 0) (.int .i64 0) (.int .i64 0):=HR3.below (ba _ _);have XB0:Below w.heap.size w (w3.alloc (.cells #[.int .i64 x1,.string nm,.int .i64 x2,.int .i64 x3,.int .i64 x4] 53)):=bal hb3' _;generalize hX:w3.alloc (.cells #[.int .i64 x1,.string nm,.int .i64 x2,.int .i64 x3,.int .i64 x4] 53)=X at XN0 XF0 XR0 XB0 ⊢;generalize hgd:w3.heap.size=g at XF0 hg1 ⊢;have XN:=XN0;have XF:=XF0;have XR:=XR0;have XB:Below w.heap.size w X:=XB0;have hE1:Hid (w.heap.size+1≠w.heap.size):=by show _≠_;omega
  have hG1:Hid (w.heap.size+1≠g):=by show _≠_;omega
  clear hX hgd hN3 hb3 z0 z1 z2 z3 z4 z5 z6 z7 z8 zr H1 H2 hrg c0 c1 c2 c3 c4 c5 c6 c7 c8 XN0 XF0 XR0 XB0 HR;have hgs:g<X.heap.size:=XF.lt;have ka:∀ W,wQ W w.heap.size [x0,x1,x2,x3,x4,x5,x6,x7,x8]->FivB W g (.int .i64 x1) (.string nm) (.int .i64 x2) (.int .i64 x3) (.int .i64 x4)->FivB W (w.heap.size+1) (.int .i64 0) (.string ⟨#[]⟩) (.int .i64 0) (.int .i64 0) (.int .i64 0)->Calls prog 97 #[.agg #[.int .i64 x1,.string nm,.int .i64 x2,.int .i64 x3,.int .i64 x4]] W fun x w'=>x=.returned (.agg #[.int .i64 y0,.int .i64 y1,.int .i64 y2,.int .i64 y3,.int .i64 y4,.int .i64 y5,.int .i64 y6,.int .i64 y7,.int .i64 y8])/\Below W.heap.size W w'/\wQ w' w.heap.size [x0,x1,x2,x3,x4,x5,x6,x7,x8]/\FivB w' g (.int .i64 x1) (.string nm) (.int .i64 x2) (.int .i64 x3) (.int .i64 x4)/\FivB w' (w.heap.size+1) (.int .i64 0) (.string ⟨#[]⟩) (.int .i64 0) (.int .i64 0) (.int .i64 0):=fun W h1 h2 h3=>(kr W).mono (by rintro e w' ⟨k1,k2⟩;exact⟨k1,k2,h1.at k2,h2.below k2,h3.below k2⟩);have I1:Hid (wQ X.drew w.heap.size [x0,x1,x2,x3,x4,x5,x6,x7,x8]):=XN.drew;have I2:Hid (FivB X.drew g (.int .i64 x1) (.string nm) (.int .i64 x2) (.int .i64 x3) (.int .i64 x4)):=XF.below (aQ _ _).drew;have I3:Hid (FivB X.drew (w.heap.size+1) (.int .i64 0) (.string ⟨#[]⟩) (.int .i64 0) (.int .i64 0) (.int .i64 0)):=XR.below (aQ _ _).drew;have hrx:X.drew.rangeAt w.heap.size 0 [.int .i64 x0,.int .i64 x1,.int .i64 x2,.int .i64 x3,.int .i64 x4,.int .i64 x5,.int .i64 x6,.int .i64 x7,.int .i64 x8]:=I1.out.range;obtain⟨v0,v1,v2,v3,v4,_,_,_,_,_,_⟩:=id XF;clear kr kn XN XF XR;go_wp2_with fail
  go_region_held3 (fun w'=>w'.cell? ⟨g,0,none⟩=some (.int .i64 x1)/\w'.cell? ⟨g,1,none⟩=some (.string nm)/\w'.cell? ⟨g,2,none⟩=some (.int .i64 x2)/\w'.cell? ⟨g,3,none⟩=some (.int .i64 x3)/\w'.cell? ⟨g,4,none⟩=some (.int .i64 x4)/\w'.rangeAt w.heap.size 0 [.int .i64 x0,.int .i64 x1,.int .i64 x2,.int .i64 x3,.int .i64 x4,.int .i64 x5,.int .i64 x6,.int .i64 x7,.int .i64 x8])
   ((refine arX ?_ ?_;(first|with_reducible exact I1.out|with_reducible exact hN4|with_reducible exact bR hN4 hE1.out _ _ _ _ _);(first|with_reducible exact I2.out|with_reducible exact hF4|with_reducible exact xC hF4 hG1.out _ _ _ _ _)))
   ((go_at_call 97;refine(ka _ I1.out I2.out I3.out).mono ?_;rintro x4 w4 ⟨rfl,hb4,hN4,hF4,hR4⟩;obtain⟨p0,p1,p2,p3,p4,_,_,_,_,_,_⟩:=id hF4;obtain⟨q0,q1,q2,q3,q4,f0,f1,f2,f3,f4,_⟩:=id hR4;have zr4:=hN4.range))
  have BX:Below w.heap.size w w4:=bt XB.drew hb4;have FR:=wK hR4 (.int .i64 x1) (.string nm) (.int .i64 x2) (.int .i64 x3) (.int .i64 x4);go_wp2;obtain⟨r0,r1,r2,r3,r4,_,_,_,_,_,_⟩:=FR;refine yQ (v:=.tuple #[.agg #[.int .i64 x1,.string nm,.int .i64 x2,.int .i64 x3,.int .i64 x4],.bool r]) ?_ rfl ⟨rfl,?_⟩
  ·simp[results,results95,go_sem,r0,r1,r2,r3,r4]
  ·exact bs (bs (bs (bs (bs BX (by simp) _) (by simp) _) (by simp) _) (by simp) _) (by simp) _
 ·have hsz3:W.heap.size<=w3.heap.size:=by have:=hb3.size;simp at this;omega
  have hb3':Below w.heap.size w w3:=bt (bal hbW _).drew hb3;have HR3:=((HR.out.below (ba _ _)).below (aQ _ _).drew).below hb3;have hg1:W.heap.size≠w.heap.size+1:=by have:=HWS.out;omega
  have XN0:wQ (((((w3.setCell ⟨W.heap.size,0,none⟩ (.int .i64 x1)).setCell ⟨W.heap.size,1,none⟩ (.string nm)).setCell ⟨W.heap.size,2,none⟩ (.int .i64 x2)).setCell ⟨W.heap.size,3,none⟩ (.int .i64 x3)).setCell ⟨W.heap.size,4,none⟩ (.int .i64 x4)) w.heap.size [x0,x1,x2,x3,x4,x5,x6,x7,x8]:=bR hN3 HNE.out _ _ _ _ _;have XF0:FivB (((((w3.setCell ⟨W.heap.size,0,none⟩ (.int .i64 x1)).setCell ⟨W.heap.size,1,none⟩ (.string nm)).setCell ⟨W.heap.size,2,none⟩ (.int .i64 x2)).setCell ⟨W.heap.size,3,none⟩ (.int .i64 x3)).setCell ⟨W.heap.size,4,none⟩ (.int .i64 x4)) W.heap.size (.int .i64 x1) (.string nm) (.int .i64 x2) (.int .i64 x3) (.int .i64 x4):=wK ⟨s0,s1,s2,s3,s4,g0,g1,g2,g3,g4,hsl⟩ _ _ _ _ _;have XR0:FivB (((((w3.setCell ⟨W.heap.size,0,none⟩ (.int .i64 x1)).setCell ⟨W.heap.size,1,none⟩ (.string nm)).setCell ⟨W.heap.size,2,none⟩ (.int .i64 x2)).setCell ⟨W.heap.size,3,none⟩ (.int .i64 x3)).setCell ⟨W.heap.size,4,none⟩ (.int .i64 x4)) (w.heap.size+1) (.int .i64 0) (.string ⟨#[]⟩) (.int .i64 0) (.int .i64 0) (.int .i64 0):=xC HR3 (by have:=HWS.out;omega) _ _ _ _ _;have XB0:Below w.heap.size w (((((w3.setCell ⟨W.heap.size,0,none⟩ (.int .i64 x1)).setCell ⟨W.heap.size,1,none⟩ (.string nm)).setCell ⟨W.heap.size,2,none⟩ (.int .i64 x2)).setCell ⟨W.heap.size,3,none⟩ (.int .i64 x3)).setCell ⟨W.heap.size,4,none⟩ (.int .i64 x4)):=bs (bs (bs (bs (bs hb3' (by simp;have:=hbW.size;omega) _) (by simp;have:=hbW.size;omega) _) (by simp;have:=hbW.size;omega) _) (by simp;have:=hbW.size;omega) _) (by simp;have:=hbW.size;omega) _;generalize hX:((((w3.setCell ⟨W.heap.size,0,none⟩ (.int .i64 x1)).setCell ⟨W.heap.size,1,none⟩ (.string nm)).setCell ⟨W.heap.size,2,none⟩ (.int .i64 x2)).setCell ⟨W.heap.size,3,none⟩ (.int .i64 x3)).setCell ⟨W.heap.size,4,none⟩ (.int .i64 x4)=X at XN0 XF0 XR0 XB0 ⊢;generalize hgd:W.heap.size=g at XF0 hg1 ⊢;have XN:=XN0;have XF:=XF0;have XR:=XR0;have XB:Below w.heap.size w X:=XB0;have hE1:Hid (w.heap.size+1≠w.heap.size):=by show _≠_;omega
  have hG1:Hid (w.heap.size+1≠g):=by show _≠_;omega
  clear hX hgd hN3 hb3 z0 z1 z2 z3 z4 z5 z6 z7 z8 zr H1 H2 hrg c0 c1 c2 c3 c4 c5 c6 c7 c8 XN0 XF0 XR0 XB0 HR;have hgs:g<X.heap.size:=XF.lt;have ka:∀ W,wQ W w.heap.size [x0,x1,x2,x3,x4,x5,x6,x7,x8]->FivB W g (.int .i64 x1) (.string nm) (.int .i64 x2) (.int .i64 x3) (.int .i64 x4)->FivB W (w.heap.size+1) (.int .i64 0) (.string ⟨#[]⟩) (.int .i64 0) (.int .i64 0) (.int .i64 0)->Calls prog 97 #[.agg #[.int .i64 x1,.string nm,.int .i64 x2,.int .i64 x3,.int .i64 x4]] W fun x w'=>x=.returned (.agg #[.int .i64 y0,.int .i64 y1,.int .i64 y2,.int .i64 y3,.int .i64 y4,.int .i64 y5,.int .i64 y6,.int .i64 y7,.int .i64 y8])/\Below W.heap.size W w'/\wQ w' w.heap.size [x0,x1,x2,x3,x4,x5,x6,x7,x8]/\FivB w' g (.int .i64 x1) (.string nm) (.int .i64 x2) (.int .i64 x3) (.int .i64 x4)/\FivB w' (w.heap.size+1) (.int .i64 0) (.string ⟨#[]⟩) (.int .i64 0) (.int .i64 0) (.int .i64 0):=fun W h1 h2 h3=>(kr W).mono (by rintro e w' ⟨k1,k2⟩;exact⟨k1,k2,h1.at k2,h2.below k2,h3.below k2⟩);have I1:Hid (wQ X.drew w.heap.size [x0,x1,x2,x3,x4,x5,x6,x7,x8]):=XN.drew;have I2:Hid (FivB X.drew g (.int .i64 x1) (.string nm) (.int .i64 x2) (.int .i64 x3) (.int .i64 x4)):=XF.below (aQ _ _).drew;have I3:Hid (FivB X.drew (w.heap.size+1) (.int .i64 0) (.string ⟨#[]⟩) (.int .i64 0) (.int .i64 0) (.int .i64 0)):=XR.below (aQ _ _).drew;have hrx:X.drew.rangeAt w.heap.size 0 [.int .i64 x0,.int .i64 x1,.int .i64 x2,.int .i64 x3,.int .i64 x4,.int .i64 x5,.int .i64 x6,.int .i64 x7,.int .i64 x8]:=I1.out.range;obtain⟨v0,v1,v2,v3,v4,_,_,_,_,_,_⟩:=id XF;clear kr kn XN XF XR;go_wp2_with fail
  go_region_held3 (fun w'=>w'.cell? ⟨g,0,none⟩=some (.int .i64 x1)/\w'.cell? ⟨g,1,none⟩=some (.string nm)/\w'.cell? ⟨g,2,none⟩=some (.int .i64 x2)/\w'.cell? ⟨g,3,none⟩=some (.int .i64 x3)/\w'.cell? ⟨g,4,none⟩=some (.int .i64 x4)/\w'.rangeAt w.heap.size 0 [.int .i64 x0,.int .i64 x1,.int .i64 x2,.int .i64 x3,.int .i64 x4,.int .i64 x5,.int .i64 x6,.int .i64 x7,.int .i64 x8])
   ((refine arX ?_ ?_;(first|with_reducible exact I1.out|with_reducible exact hN4|with_reducible exact bR hN4 hE1.out _ _ _ _ _);(first|with_reducible exact I2.out|with_reducible exact hF4|with_reducible exact xC hF4 hG1.out _ _ _ _ _)))
   ((go_at_call 97;refine(ka _ I1.out I2.out I3.out).mono ?_;rintro x4 w4 ⟨rfl,hb4,hN4,hF4,hR4⟩;obtain⟨p0,p1,p2,p3,p4,_,_,_,_,_,_⟩:=id hF4;obtain⟨q0,q1,q2,q3,q4,f0,f1,f2,f3,f4,_⟩:=id hR4;have zr4:=hN4.range))
  have BX:Below w.heap.size w w4:=bt XB.drew hb4;have FR:=wK hR4 (.int .i64 x1) (.string nm) (.int .i64 x2) (.int .i64 x3) (.int .i64 x4);go_wp2;obtain⟨r0,r1,r2,r3,r4,_,_,_,_,_,_⟩:=FR;refine yQ (v:=.tuple #[.agg #[.int .i64 x1,.string nm,.int .i64 x2,.int .i64 x3,.int .i64 x4],.bool r]) ?_ rfl ⟨rfl,?_⟩
  ·simp[results,results95,go_sem,r0,r1,r2,r3,r4]
  ·exact bs (bs (bs (bs (bs BX (by simp) _) (by simp) _) (by simp) _) (by simp) _) (by simp) _
structure HouC (w:World) (bh bd:Nat) (cv rv:Value) (bk:Nat) (n:Int) (brk:Bool):Prop where
 c0:Cl w bh 0 cv
 c1:Cl w bh 1 rv
 c2:Cl w bh 2 (.pointer (some ⟨bk,0,none⟩))
 c3:Cl w bh 3 (.iface 85 (.pointer (some ⟨bd,0,none⟩)))
 c4:Cl w bh 4 (.int .i64 n)
 c5:Cl w bh 5 (.bool brk)
theorem HouC.kp {w w':World}{bh bd:Nat}{cv rv:Value}{bk:Nat}{n:Int}{brk:Bool}{N:Nat->Prop}(h:HouC w bh bd cv rv bk n brk)(hk:Keeps w w' N)(hn:¬ N bh):HouC w' bh bd cv rv bk n brk :=
 ⟨kY h.c0 hk hn,kY h.c1 hk hn,kY h.c2 hk hn,kY h.c3 hk hn,kY h.c4 hk hn,kY h.c5 hk hn⟩
theorem HouC.at {w w':World}{bh bd:Nat}{cv rv:Value}{bk:Nat}{n:Int}{brk:Bool}(h:HouC w bh bd cv rv bk n brk)(hb:Below w.heap.size w w'):HouC w' bh bd cv rv bk n brk :=
 h.kp (N:=fun _=>False) (oQ hb) (fun h=>h)
theorem HouC.s4 {w:World}{bh bd:Nat}{cv rv:Value}{bk:Nat}{n:Int}{brk:Bool}(h:HouC w bh bd cv rv bk n brk)(m:Int):HouC (w.setCell ⟨bh,4,none⟩ (.int .i64 m)) bh bd cv rv bk m brk :=
 ⟨h.c0.oth (.inr (by decide)) _,h.c1.oth (.inr (by decide)) _,h.c2.oth (.inr (by decide)) _,h.c3.oth (.inr (by decide)) _,h.c4.set _,h.c5.oth (.inr (by decide)) _⟩
theorem arZ (bh bd:Nat)(cv rv:Value)(bk n m:Nat)(brk:Bool)(w:World)(h:HouC w bh bd cv rv bk n brk)(hn:n<=4096)(hm:9*n=m) :
  Calls prog 150 #[.pointer (some ⟨bh,0,none⟩)] w fun e w'=>e=.returned (.int .i64 (m:Int))/\w' = w:=by
 have m4:=h.c4.c;have hw:IntKind.i64.wrap ((n:Int)*9)=(m:Int):=by rw[bJ];omega
 have H:Hid ((n:Int)*9=(m:Int)):=by show _=_;omega
 clear h hm;go_enter func150,ntmps150;go_wp2;go_ret;exact⟨congrArg (fun z=>Ending.returned (Value.int .i64 z)) (by first|exact H.out|rfl),rfl⟩
theorem arJ (bh bd bw:Nat)(cv rv:Value)(bk n:Nat)(brk:Bool)(a:Option Addr)(c:Nat)(disk:List Int)(left:Int)(w:World)(h:HouC w bh bd cv rv bk n brk)(hd:DskM w bd bw a c disk left)(hn:n<=4096)(r:Bool)(hr:decide (9*n+9<=disk.length)=r) :
  Calls prog 93 #[.pointer (some ⟨bh,0,none⟩)] w fun e w'=>e=.returned (.bool r)/\Below w.heap.size w w':=by
 have ks:=fun W (hW:DskM W bd bw a c disk left)=>c6Z bd bw a c disk left W hW;have hm : ∀ w : World, (method 475 85 (.pointer (some ⟨bd, 0, none⟩)) "Size").run prog w = .ok (300, .pointer (some ⟨bd, 0, none⟩)) w := fun _ => by kernel_rfl
 have m4:=h.c4.c;have m3:=h.c3.c;have HD:Hid (∀ q,DskM (w.drewN q) bd bw a c disk left):=fun q=>hd.at (below_drewN (aQ _ _) q);have hw1:IntKind.i64.wrap ((n:Int)+1)=(n:Int)+1:=by rw[bJ];omega
 have hw2:IntKind.i64.wrap (((n:Int)+1)*9)=((n:Int)+1)*9:=by rw[bJ];omega
 have hq:decide (((n:Int)+1)*9<=(disk.length:Int))=r:=by rw[<-hr];exact decide_eq_decide.2 (by omega)
 clear hr h hd;go_enter func93,ntmps93;go_wp2_with fail;go_quiet ((go_at_call 300;refine Calls.quiet_of_same (ks _ ?_);first|exact HD.out _|exact HD.out 0));go_wp2;go_ret;exact⟨rfl,below_drewN (aQ _ _) _⟩
def fM (l:List Int) (i:Nat):List Int:=l.take i++List.replicate (9 - i) 0
theorem dhX {l:List Int}(hl:l.length=9){i:Nat}(hi:i<9){x:Int}(hx:l[i]? = some x):(fM l i).set i x=fM l (i+1):=by
 unfold fM;have h1:(l.take i).length=i:=by rw[lU];omega
 rw[iO _ _ (by omega),h1,uK,kZ,hx,show 9 - i=(9 - (i+1))+1 by omega,List.replicate_succ];simp
theorem asQ {disk:List Int}{n i:Nat}(hi:i<9):(rcd disk n)[i]? = disk[9*n+i]?:=by
 unfold rcd;rw[jI hi,kF]
theorem jC {disk:List Int}{n:Nat}(h:9*n+9<=disk.length):(rcd disk n).length=9:=by
 unfold rcd;rw[lU,vL];omega
theorem dhZ (bh bd bw:Nat)(cv rv:Value)(bk n:Nat)(brk:Bool)(a:Option Addr)(c:Nat)(disk:List Int)(left:Int)(w:World)(h:HouC w bh bd cv rv bk n brk)(hd:DskM w bd bw a c disk left)(hn:n<=4096)(hr:9*n+9<=disk.length)(x0 x1 x2 x3 x4 x5 x6 x7 x8:Int)(hx:rcd disk n=[x0,x1,x2,x3,x4,x5,x6,x7,x8]) :
  Calls prog 94 #[.pointer (some ⟨bh,0,none⟩)] w fun e w'=>e=.returned (.agg #[.int .i64 x0,.int .i64 x1,.int .i64 x2,.int .i64 x3,.int .i64 x4,.int .i64 x5,.int .i64 x6,.int .i64 x7,.int .i64 x8])/\Below w.heap.size w w':=by
 have HH:Hid (HouC w bh bd cv rv bk n brk):=h;have HD:Hid (DskM w bd bw a c disk left):=hd;have HX:Hid (rcd disk n=[x0,x1,x2,x3,x4,x5,x6,x7,x8]):=hx;have hm : ∀ w : World, (method 475 85 (.pointer (some ⟨bd, 0, none⟩)) "Get").run prog w = .ok (298, .pointer (some ⟨bd, 0, none⟩)) w := fun _ => by kernel_rfl
 obtain⟨m,hmm⟩:∃ m,9*n=m:=⟨_,rfl⟩;have HM:Hid (9*n=m):=hmm;have HRL:Hid (9*n+9<=disk.length):=hr;have hm9:m<=40000:=by omega
 clear h hd hx hmm hr;go_enter func94,ntmps94;go_wp2
 go_loopw [5] (fun t wr=>∃ (i:Nat),t=.int .i64 (i:Int)/\i<=9/\Hid (wQ wr (w.heap.size+1) (fM (rcd disk n) i))/\Hid (Below w.heap.size w wr)/\Hid (wQ wr w.heap.size [0,0,0,0,0,0,0,0,0])) (fun t _=>9 - (intOf t).toNat)
 case atStart =>
  exact⟨0,rfl,nQ _,wQ.new _ _ _ _ _ _ _ _ _ 187 (by simp),bal (ba _ _) _,(wQ.new _ _ _ _ _ _ _ _ _ 187 rfl).at (ba _ _)⟩
 case round =>
  obtain⟨i,rfl,hi,HN,HW,HZ⟩:=hrel;by_cases h1:i<9
  ·obtain⟨x,hxi⟩:∃ x,(rcd disk n)[i]? = some x:=⟨_,dZ (by rw[jC HRL.out];exact h1)⟩
   obtain⟨j,hj⟩:∃ j,m+i=j:=⟨_,rfl⟩;have hdx:disk[j]? = some x:=by rw[<-hj,<-HM.out,<-asQ h1];exact hxi
   have hw1:IntKind.i64.wrap ((m:Int)+(i:Int))=(j:Int):=by rw[bJ];omega
   have HHr:HouC wr bh bd cv rv bk n brk:=HH.out.at HW.out;have HDr:DskM wr bd bw a c disk left:=HD.out.at HW.out;have m3:=HHr.c3.c;have ks:∀ W,HouC W bh bd cv rv bk n brk->_:=fun W hW=>arZ bh bd cv rv bk n m brk W hW hn HM.out;have kg:∀ W,DskM W bd bw a c disk left->_:=fun W hW=>c6J bd bw a c disk left j x W hW hdx;have I1:Hid (HouC wr.drew bh bd cv rv bk n brk):=HHr.at (aQ _ _).drew;have I2:Hid (DskM wr.drew bd bw a c disk left):=HDr.at (aQ _ _).drew;obtain⟨y,hy⟩:∃ y,(fM (rcd disk n) i)[i]? = some y:=⟨_,dZ (by rw[HN.out.1];exact h1)⟩;have m1:=(HN.out.2 i y hy).c;have m2:=(HN.out.2 i y hy).f;have hi9:(i:Int)<9:=by omega
   have FN:Hid (wQ (wr.setCell ⟨w.heap.size+1,i,none⟩ (.int .i64 x)).drew (w.heap.size+1) (fM (rcd disk n) (i+1))):=by
    rw[<-dhX (jC HRL.out) h1 hxi];exact(HN.out.set h1 _).drew
   have FW:Hid (Below w.heap.size w (wr.setCell ⟨w.heap.size+1,i,none⟩ (.int .i64 x)).drew):=(bs HW.out (by simp) _).drew;have FZ:Hid (wQ (wr.setCell ⟨w.heap.size+1,i,none⟩ (.int .i64 x)).drew w.heap.size [0,0,0,0,0,0,0,0,0]):=(HZ.out.oth (by omega) _).drew;clear hxi hj hdx HHr HDr hy;go_wp2_with fail
   go_region_law (first
    | (go_simp;go_at_call 150;refine(ks _ I1.out).mono ?_;rintro e w' ⟨rfl,rfl⟩;go_wp2_with fail)
    | (go_simp;go_at_call 298;refine(kg _ I2.out).mono ?_;rintro e w' ⟨rfl,rfl⟩;go_wp2_with fail))
   all_goals
    go_wp2
    go_roundw
    ·exact⟨i+1,by go_num,h1,FN,FW,FZ⟩
    ·simp[intOf];omega
  ·obtain rfl:i=9:=by omega
   have HN2:wQ wr (w.heap.size+1) [x0,x1,x2,x3,x4,x5,x6,x7,x8]:=by
    have h:=HN.out;rw[HX.out] at h;exact h
   obtain⟨a0,a1,a2,a3,a4,a5,a6,a7,a8⟩:=HN2.cells;obtain⟨z0,z1,z2,z3,z4,z5,z6,z7,z8⟩:=HZ.out.nine;have HZ9:=(((((((((HZ.out.set (i:=0) (by decide) x0).set (i:=1) (by decide) x1).set (i:=2) (by decide) x2).set (i:=3) (by decide) x3).set (i:=4) (by decide) x4).set (i:=5) (by decide) x5).set (i:=6) (by decide) x6).set (i:=7) (by decide) x7).set (i:=8) (by decide) x8);have FZ:Hid (wQ _ w.heap.size [x0,x1,x2,x3,x4,x5,x6,x7,x8]):=HZ9;obtain⟨c0,f0,l0⟩:=z0;obtain⟨c1,f1,_⟩:=z1;obtain⟨c2,f2,_⟩:=z2;obtain⟨c3,f3,_⟩:=z3;obtain⟨c4,f4,_⟩:=z4;obtain⟨c5,f5,_⟩:=z5;obtain⟨c6,f6,_⟩:=z6;obtain⟨c7,f7,_⟩:=z7;obtain⟨c8,f8,_⟩:=z8;clear HZ9 HN HN2;go_wp2;obtain⟨r0,r1,r2,r3,r4,r5,r6,r7,r8⟩:=FZ.out.cells;refine yQ (v:=.agg #[.int .i64 x0,.int .i64 x1,.int .i64 x2,.int .i64 x3,.int .i64 x4,.int .i64 x5,.int .i64 x6,.int .i64 x7,.int .i64 x8]) ?_ rfl ⟨rfl,?_⟩
   ·simp[results,results94,go_sem,r0,r1,r2,r3,r4,r5,r6,r7,r8]
   ·exact bs (bs (bs (bs (bs (bs (bs (bs (bs HW.out (by simp) _) (by simp) _) (by simp) _) (by simp) _) (by simp) _) (by simp) _) (by simp) _) (by simp) _) (by simp) _
theorem asX {disk d1:List Int}{left l1:Int}{ws:List (Nat × Int)}(h:iX disk left ws=(d1,l1,true))(p:Nat × Int):iX disk left (ws++[p])=iX d1 l1 [p]:=by
 induction ws generalizing disk left with
 | nil=>simp only[iX,cQ] at h;obtain⟨rfl,rfl,_⟩:=h;rfl
 | cons q ws ih =>
  obtain⟨a,x⟩:=q;simp only[iX] at h;by_cases c:left=0
  ·rw[xQ c] at h;simp at h
  ·rw[qQ c] at h
   rw[fH,iX,qQ c];exact ih h
theorem asZ {disk d1:List Int}{left l1:Int}{ws:List (Nat × Int)}(h:iX disk left ws=(d1,l1,false))(r:List (Nat × Int)):iX disk left (ws++r)=(d1,l1,false):=by
 induction ws generalizing disk left with
 | nil=>simp[iX] at h
 | cons q ws ih =>
  obtain⟨a,x⟩:=q;simp only[iX] at h;by_cases c:left=0
  ·rw[xQ c] at h;rw[fH,iX,xQ c];exact h
  ·rw[qQ c] at h
   rw[fH,iX,qQ c];exact ih h
theorem dhJ {disk d1:List Int}{left l1:Int}{ok:Bool}{ws:List (Nat × Int)}(h:iX disk left ws=(d1,l1,ok))(hl:-9223372036854775808<=left/\left<=9223372036854775807):-9223372036854775808<=l1/\l1<=9223372036854775807:=by
 induction ws generalizing disk left with
 | nil=>simp only[iX,cQ] at h;omega
 | cons q ws ih =>
  obtain⟨a,x⟩:=q;simp only[iX] at h;by_cases c:left=0
  ·rw[xQ c] at h;simp only[cQ] at h;omega
  ·rw[qQ c] at h
   exact ih h (by split <;> omega)
theorem asJ {disk d1:List Int}{left l1:Int}{ok:Bool}{ws:List (Nat × Int)}(h:iX disk left ws=(d1,l1,ok)):d1.length=disk.length:=by
 obtain⟨m,_,h2,_,_⟩:=iB h;rw[h2,jH]
def vC (bd bw:Nat) (a:Option Addr) (c:Nat) (d':List Int) (l':Int) (ok:Bool) (w:World):Ending->World->Prop:=fun e w' =>
 e=.returned (.bool ok)/\DskM w' bd bw a c d' l'/\Keeps w w' (fun k=>k=bd\/k=bw)
theorem yC (bd bw Bd Ba m:Nat)(a:Option Addr)(c:Nat)(disk:List Int)(left:Int)(i:Nat)(x:Int)(w:World)(hd:DskM w bd bw a c disk left)(hB:Cl w Bd 0 (.iface 85 (.pointer (some ⟨bd,0,none⟩))))(hA:Cl w Ba 0 (.int .i64 (m:Int)))(hm4:m<=40000)(hi:i<9)(hr:m+9<=disk.length)(hl:-9223372036854775808<=left/\left<=9223372036854775807)(d':List Int)(l':Int)(ok:Bool)(hp:iX disk left [(m+i,x)]=(d',l',ok)) :
  Calls prog 188 #[.int .i64 i,.int .i64 x,.pointer (some ⟨Bd,0,none⟩),.pointer (some ⟨Ba,0,none⟩)] w (vC bd bw a c d' l' ok w):=by
 have hm : ∀ w : World, (method 475 85 (.pointer (some ⟨bd, 0, none⟩)) "Put").run prog w = .ok (299, .pointer (some ⟨bd, 0, none⟩)) w := fun _ => by kernel_rfl
 obtain⟨j,hj⟩:∃ j,m+i=j:=⟨_,rfl⟩;rw[hj] at hp;have hw1:IntKind.i64.wrap ((m:Int)+(i:Int))=(j:Int):=by rw[bJ];omega
 have hw2:(m:Int)+(i:Int)=(j:Int):=by omega
 have kp:=c7X bd bw a c disk left j x w hd (by omega) hl d' l' ok hp;have m3:=hB.c;have m0:=hA.c;clear hd hB hA hj hp;go_enter func188,ntmps188;go_wp2_with fail;refine kp.mono ?_;rintro e w' ⟨rfl,hD2,hK2,_⟩;clear kp;go_wp2;go_ret;exact⟨rfl,hD2,hK2⟩
def yH (n:Nat) (l:List Int) (k:Nat):List (Nat × Int):=(9*n,0)::(List.range k).map fun j=>(9*n+(j+1),l.getD (j+1) 0)
theorem diQ (n:Nat)(l:List Int)(k:Nat):yH n l (k+1)=yH n l k++[(9*n+(k+1),l.getD (k+1) 0)]:=by
 unfold yH;rw[List.range_succ,uG,fH];rfl
theorem diX (n:Nat)(e:En):wrs n e=yH n (vZ e) 8++[(9*n+0,1)]:=rfl
theorem atQ (n:Nat)(e:En){k:Nat}(hk:k<=8):∃ r,wrs n e=yH n (vZ e) k++r:=by
 refine⟨((List.range (8 - k)).map fun j=>(9*n+(k+j+1),(vZ e).getD (k+j+1) 0))++[(9*n,1)],?_⟩;unfold wrs yH;rw[fH,<-List.append_assoc];congr 2;have h:List.range 8=List.range k++(List.range (8 - k)).map (k + ·):=by rw[<-List.range_add,show k+(8 - k)=8 by omega]
 rw[h,uG,List.map_map];congr 1
theorem diZ (bd bw R n m:Nat)(a:Option Addr)(c:Nat)(disk:List Int)(left:Int)(e:En)(w:World)(hd:DskM w bd bw a c disk left)(hmn:9*n=m)(hRn:R≠bd/\R≠bw)(hbw:bw<w.heap.size)(hn:n<=4096)(hr:9*n+9<=disk.length)(hl:-9223372036854775808<=left/\left<=9223372036854775807)(x0 x1 x2 x3 x4 x5 x6 x7 x8:Int)(hR:wQ w R [x0,x1,x2,x3,x4,x5,x6,x7,x8])(hx:vZ e=[x0,x1,x2,x3,x4,x5,x6,x7,x8])(d':List Int)(l':Int)(ok:Bool)(hp:iX disk left (wrs n e)=(d',l',ok)) :
  Calls prog 152 #[.iface 85 (.pointer (some ⟨bd,0,none⟩)),.int .i64 (m:Int),.slice (some ⟨R,0,none⟩) 9 9] w (vC bd bw a c d' l' ok w):=by
 have hmf:=hmf;have HX:Hid (vZ e=[x0,x1,x2,x3,x4,x5,x6,x7,x8]):=hx;have HP:Hid (iX disk left (wrs n e)=(d',l',ok)):=hp;have HM:Hid (9*n=m):=hmn;have hm4:m<=40000:=by omega
 have HRN:Hid (¬ (R=bd\/R=bw)):=fun h=>h.elim hRn.1 hRn.2;have HRL:Hid (9*n+9<=disk.length):=hr;have HLI:Hid (-9223372036854775808<=left/\left<=9223372036854775807):=hl;have hbd:bd<w.heap.size:=hd.c0.lt;obtain⟨W,hW⟩:∃ W,(w.alloc (.cells #[.iface 85 (.pointer (some ⟨bd,0,none⟩))] 129)).alloc (.cells #[.int .i64 (m:Int)] 3)=W:=⟨_,rfl⟩;have HWb:Hid (Below w.heap.size w W):=hW▸bal (ba _ _) _;have HC:Hid (Cl W w.heap.size 0 (.iface 85 (.pointer (some ⟨bd,0,none⟩)))):=hW▸(Cl.new _ 129 0 _ rfl rfl).at (ba _ _);have HA:Hid (Cl W (w.heap.size+1) 0 (.int .i64 (m:Int))):=hW▸Cl.new _ 3 0 _ (by simp) rfl;have HN:Hid (wQ W R [x0,x1,x2,x3,x4,x5,x6,x7,x8]):=hR.at HWb.out;have HDW:Hid (DskM W bd bw a c disk left):=hd.at HWb.out;have nK:Hid (¬ (w.heap.size=bd\/w.heap.size=bw)/\¬ (w.heap.size+1=bd\/w.heap.size+1=bw)):=by constructor <;> omega
 obtain⟨d0,l0,ok0,hp0⟩:∃ d0 l0 ok0,iX disk left [(m+0,0)]=(d0,l0,ok0):=⟨_,_,_,rfl⟩;have k0:=yC bd bw w.heap.size (w.heap.size+1) m a c disk left 0 0 W HDW.out HC.out HA.out hm4 (by decide) (by omega) hl d0 l0 ok0 hp0;have HP0:Hid (iX disk left (yH n (vZ e) 0)=(d0,l0,ok0)):=by rw[<-hmn] at hp0;exact hp0
 clear hd hmn hRn hr hl hx hp hp0 hR;go_enter func152,ntmps152;go_wp2_with fail;clear hW;refine k0.mono ?_;rintro x w1 ⟨rfl,hD1,hK1⟩;have K1:Keeps w w1 (fun k=>k=bd\/k=bw):=(oQ HWb.out).trans hK1;cases ok0 with
 | false =>
  obtain⟨r,hr⟩:=atQ n e (k:=0) (by decide);have h:=asZ HP0.out r;rw[<-hr,HP.out] at h;simp only[cQ] at h;obtain⟨rfl,rfl,rfl⟩:=h;clear k0;go_wp2;go_ret;exact⟨rfl,hD1,K1⟩
 | true =>
  have HC1:Hid (Cl w1 w.heap.size 0 (.iface 85 (.pointer (some ⟨bd,0,none⟩)))):=kY HC.out hK1 nK.out.1;have HA1:Hid (Cl w1 (w.heap.size+1) 0 (.int .i64 (m:Int))):=kY HA.out hK1 nK.out.2;have HN1:Hid (wQ w1 R [x0,x1,x2,x3,x4,x5,x6,x7,x8]):=⟨rfl,fun k x hx=>kY (HN.out.2 k x hx) hK1 HRN.out⟩;have HD1:Hid (DskM w1 bd bw a c d0 l0):=hD1;have HK1:Hid (Keeps w w1 (fun k=>k=bd\/k=bw)):=K1;clear k0 hD1 hK1 K1;go_wp2
  go_loopw [8] (fun t wr=>∃ (k:Nat) (d1:List Int) (l1:Int),t=.int .i64 ((k:Int)+1)/\k<=8/\Hid (iX disk left (yH n (vZ e) k)=(d1,l1,true))/\Hid (DskM wr bd bw a c d1 l1)/\Hid (Keeps w wr (fun k=>k=bd\/k=bw))/\Hid (Cl wr w.heap.size 0 (.iface 85 (.pointer (some ⟨bd,0,none⟩))))/\Hid (Cl wr (w.heap.size+1) 0 (.int .i64 (m:Int)))/\Hid (wQ wr R [x0,x1,x2,x3,x4,x5,x6,x7,x8])) (fun t _=>9 - (intOf t).toNat)
  case atStart=>exact⟨0,d0,l0,by simp,by decide,HP0,HD1,HK1,HC1,HA1,HN1⟩
  case round =>
   obtain⟨k,d1,l1,rfl,hk,HPk,HDk,HKk,HCk,HAk,HNk⟩:=hrel;have hlI:=dhJ HPk.out HLI.out;have hdl:d1.length=disk.length:=asJ HPk.out;have HRk:Hid (m+9<=d1.length):=by rw[Hid,hdl,<-HM.out];exact HRL.out
   clear hdl;by_cases h1:k<8
   ·obtain⟨y,hy⟩:∃ y,[x0,x1,x2,x3,x4,x5,x6,x7,x8][k+1]? = some y:=⟨_,dZ (by simp;omega)⟩
    have m1:=(HNk.out.2 (k+1) y hy).c;have hgd:(vZ e).getD (k+1) 0=y:=by rw[HX.out,List.getD,hy];rfl
    obtain⟨d2,l2,ok2,hp2⟩:∃ d2 l2 ok2,iX d1 l1 [(m+(k+1),y)]=(d2,l2,ok2):=⟨_,_,_,rfl⟩;have hstep:iX disk left (yH n (vZ e) (k+1))=(d2,l2,ok2):=by rw[diQ,asX HPk.out,hgd,HM.out,hp2]
    have HST:Hid (iX disk left (yH n (vZ e) (k+1))=(d2,l2,ok2)):=hstep;have kc:=yC bd bw w.heap.size (w.heap.size+1) m a c d1 l1 (k+1) y wr HDk.out HCk.out HAk.out hm4 (by omega) HRk.out hlI d2 l2 ok2 hp2;obtain⟨j,hj⟩:∃ j,k+1=j:=⟨_,rfl⟩;have hjI:(k:Int)+1=(j:Int):=by omega
    have hj9:(j:Int)<9:=by omega
    rw[hj] at kc m1;have HJ:Hid (k+1=j):=hj;clear hy hgd hp2 hstep hj;go_wp2_with fail;refine kc.mono ?_;rintro x w2 ⟨rfl,hD2,hK2⟩;have K2:Keeps w w2 (fun k=>k=bd\/k=bw):=HKk.out.trans hK2;cases ok2 with
    | false =>
     obtain⟨r,hr⟩:=atQ n e (k:=k+1) (by omega);have h:=asZ HST.out r;rw[<-hr,HP.out] at h;simp only[cQ] at h;obtain⟨rfl,rfl,rfl⟩:=h;clear kc;go_wp2;go_ret;exact⟨rfl,hD2,K2⟩
    | true =>
     have HC2:Hid (Cl w2 w.heap.size 0 (.iface 85 (.pointer (some ⟨bd,0,none⟩)))):=kY HCk.out hK2 nK.out.1;have HA2:Hid (Cl w2 (w.heap.size+1) 0 (.int .i64 (m:Int))):=kY HAk.out hK2 nK.out.2;have HN2:Hid (wQ w2 R [x0,x1,x2,x3,x4,x5,x6,x7,x8]):=⟨rfl,fun k x hx=>kY (HNk.out.2 k x hx) hK2 HRN.out⟩;have HD2:Hid (DskM w2 bd bw a c d2 l2):=hD2;have HK2:Hid (Keeps w w2 (fun k=>k=bd\/k=bw)):=K2;clear kc hD2 hK2 K2;go_wp2
     go_roundw
     ·exact⟨k+1,d2,l2,by have:=HJ.out;go_num,by omega,HST,HD2,HK2,HC2,HA2,HN2⟩
     ·have:=HJ.out;simp[intOf];omega
   ·obtain rfl:k=8:=by omega
    have kc:=yC bd bw w.heap.size (w.heap.size+1) m a c d1 l1 0 1 wr HDk.out HCk.out HAk.out hm4 (by decide) HRk.out hlI d' l' ok (by rw[<-HP.out,diX,asX HPk.out,HM.out]);go_wp2_with fail;refine kc.mono ?_;rintro x w2 ⟨rfl,hD2,hK2⟩;have K2:Keeps w w2 (fun k=>k=bd\/k=bw):=HKk.out.trans hK2;clear kc;go_wp2;go_ret;exact⟨rfl,hD2,K2⟩
theorem diJ (bh bd bw:Nat)(cv rv:Value)(bk n:Nat)(brk:Bool)(a:Option Addr)(c:Nat)(disk:List Int)(left:Int)(e:En)(w:World)(h:HouC w bh bd cv rv bk n brk)(hd:DskM w bd bw a c disk left)(_hne:bh≠bd/\bh≠bw)(hbw:bw<w.heap.size)(hn:n<=4096)(hr:9*n+9<=disk.length)(hl:-9223372036854775808<=left/\left<=9223372036854775807)(x0 x1 x2 x3 x4 x5 x6 x7 x8:Int)(hx:vZ e=[x0,x1,x2,x3,x4,x5,x6,x7,x8])(d':List Int)(l':Int)(ok:Bool)(hp:iX disk left (wrs n e)=(d',l',ok)) :
  Calls prog 96 #[.pointer (some ⟨bh,0,none⟩),.agg #[.int .i64 x0,.int .i64 x1,.int .i64 x2,.int .i64 x3,.int .i64 x4,.int .i64 x5,.int .i64 x6,.int .i64 x7,.int .i64 x8]] w (vC bd bw a c d' l' ok w):=by
 have hbd:bd<w.heap.size:=hd.c0.lt;obtain⟨m,hmm⟩:∃ m,9*n=m:=⟨_,rfl⟩;have hm4:m<=40000:=by omega
 obtain⟨W,hW⟩:∃ W,w.alloc (.cells #[.int .i64 x0,.int .i64 x1,.int .i64 x2,.int .i64 x3,.int .i64 x4,.int .i64 x5,.int .i64 x6,.int .i64 x7,.int .i64 x8] 187)=W:=⟨_,rfl⟩;have HWb:Hid (Below w.heap.size w W):=hW▸ba _ _;have HN:Hid (wQ W w.heap.size [x0,x1,x2,x3,x4,x5,x6,x7,x8]):=hW▸wQ.new _ _ _ _ _ _ _ _ _ 187 rfl;have HWs:Hid (w.heap.size<=W.heap.size):=HWb.out.size;have HHW:=h.at HWb.out;have m3:=HHW.c3.c;have I1:Hid (HouC W.drew bh bd cv rv bk n brk):=HHW.at (aQ _ _).drew;have I2:Hid (Keeps w W.drew (fun k=>k=bd\/k=bw)):=oQ (HWb.out.trans ((aQ _ _).drew));have ks:∀ U,HouC U bh bd cv rv bk n brk->_:=fun U hU=>arZ bh bd cv rv bk n m brk U hU hn hmm;have kp:=diZ bd bw w.heap.size n m a c disk left e W.drew ((hd.at HWb.out).at (aQ _ _).drew) hmm (by omega) (by have:=HWs.out;simp;omega) hn hr hl x0 x1 x2 x3 x4 x5 x6 x7 x8 HN.out.drew hx d' l' ok hp;clear h hd hr hl hx hp hmm HHW;go_enter func96,ntmps96;go_wp2_with fail
 try rw[hW]
 clear hW
 go_region_law (first
  | (go_simp;go_at_call 150;refine(ks _ I1.out).mono ?_;rintro e w' ⟨rfl,rfl⟩;go_wp2_with fail)
  | (go_simp;go_at_call 152;refine kp.mono ?_;rintro e w' ⟨rfl,hD2,hK2⟩;go_wp2_with fail))
 all_goals
  go_wp2;go_ret;exact⟨rfl,hD2,I2.out.trans hK2⟩
end K.P
namespace K.P
open Go.RowKit Go.Shelf K.Ds
attribute [local go_sem] Oper.semAt_some
theorem Keeps.imp {a b:World}{N N':Nat->Prop}(h:Keeps a b N)(hN:∀ k,k<a.heap.size->N k->N' k):Keeps a b N':=⟨h.os,h.tape,h.output,h.size,fun k hk hn=>h.block k hk (fun c=>hn (hN k hk c))⟩
theorem rJ (a:World)(N:Nat->Prop):Keeps a a N:=⟨rfl,rfl,rfl,vQ _,fun _ _ _=>rfl⟩
theorem dD {w w':World}{N:Nat->Prop}{base:Nat}{t:TypeId}{sz:Nat}{v:Value}{n:Nat}{xs:List Value}(h:w.ownsRow base t sz v n xs)(hk:Keeps w w' N)(hn:∀ g,v.ownBlock=some g->¬ N g):w'.ownsRow base t sz v n xs :=
 eF h fun g hg=>hk.block g (yZ h hg).2 (hn g hg)
theorem qG {w:World}{base base':Nat}{t:TypeId}{sz:Nat}{v:Value}{n:Nat}{xs:List Value}(h:w.ownsRow base t sz v n xs)(hb:base'<=base):w.ownsRow base' t sz v n xs:=by
 refine⟨h.1,?_⟩;rcases h.2 with h0|⟨g,cap,cur,hv,hb2,hc⟩
 ·exact .inl h0
 ·exact .inr ⟨g,cap,cur,hv,by omega,hc⟩
