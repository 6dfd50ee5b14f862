import Derived.Test.YtcaplmodgbpchaaGreatDoorQq35
import Derived.Great.Walk
import Derived.Deep.WholeRow
import Derived.Great.BuildSlice
open Go.Proofs.Tryz
open Go.Value(int)
open Go.IntKind(i64)
set_option linter.unusedSimpArgs false
set_option maxHeartbeats 16000000
set_option maxRecDepth 100000
namespace Go.Proofs.YtcaplmodgbpchaaGreatDoor
variable {W w w' w1:World} {B b base c i k n:Nat} {nv s v x y z:Value} {t:TypeId} {M N N' P:Nat->Prop} {L:Nat->Bool} {a:Bool} {xs:List Value} {ops:Array Oper} {o1 o2:Oper} {act:Act} {Q:Exit->Act->World->Prop} {ea ta:Option Addr}
namespace K.P
open Go.RowKit K.Ds
attribute [local go_sem] bL
theorem FivB.cl {t:Value}(h:FivB w b x y z s t):Cl w b 0 x/\Cl w b 1 y/\Cl w b 2 z/\Cl w b 3 s/\Cl w b 4 t:=⟨⟨h.c0,h.f0,h.lt⟩,⟨h.c1,h.f1,h.lt⟩,⟨h.c2,h.f2,h.lt⟩,⟨h.c3,h.f3,h.lt⟩,⟨h.c4,h.f4,h.lt⟩⟩
theorem pM {t:Value}(a:Cl w b 0 x)(g:Cl w b 1 y)(h:Cl w b 2 z)(i:Cl w b 3 s)(j:Cl w b 4 t):FivB w b x y z s t:=⟨a.c,g.c,h.c,i.c,j.c,a.f,g.f,h.f,i.f,j.f,a.lt⟩
theorem FivB.t0 {t:Value}(h:FivB w b x y z s t)(v:Value):FivB (w.setCell ⟨b,0,none⟩ v) b v y z s t:=by
 obtain⟨a,g,i,j,k⟩:=h.cl;exact pM (a.set v) (g.oth (.inr (by decide)) v) (i.oth (.inr (by decide)) v) (j.oth (.inr (by decide)) v) (k.oth (.inr (by decide)) v)
theorem FivB.t1 {t:Value}(h:FivB w b x y z s t)(v:Value):FivB (w.setCell ⟨b,1,none⟩ v) b x v z s t:=by
 obtain⟨a,g,i,j,k⟩:=h.cl;exact pM (a.oth (.inr (by decide)) v) (g.set v) (i.oth (.inr (by decide)) v) (j.oth (.inr (by decide)) v) (k.oth (.inr (by decide)) v)
theorem FivB.t2 {t:Value}(h:FivB w b x y z s t)(v:Value):FivB (w.setCell ⟨b,2,none⟩ v) b x y v s t:=by
 obtain⟨a,g,i,j,k⟩:=h.cl;exact pM (a.oth (.inr (by decide)) v) (g.oth (.inr (by decide)) v) (i.set v) (j.oth (.inr (by decide)) v) (k.oth (.inr (by decide)) v)
theorem FivB.t3 {t:Value}(h:FivB w b x y z s t)(v:Value):FivB (w.setCell ⟨b,3,none⟩ v) b x y z v t:=by
 obtain⟨a,g,i,j,k⟩:=h.cl;exact pM (a.oth (.inr (by decide)) v) (g.oth (.inr (by decide)) v) (i.oth (.inr (by decide)) v) (j.set v) (k.oth (.inr (by decide)) v)
theorem FivB.t4 {t:Value}(h:FivB w b x y z s t)(v:Value):FivB (w.setCell ⟨b,4,none⟩ v) b x y z s v:=by
 obtain⟨a,g,i,j,k⟩:=h.cl;exact pM (a.oth (.inr (by decide)) v) (g.oth (.inr (by decide)) v) (i.oth (.inr (by decide)) v) (j.oth (.inr (by decide)) v) (k.set v)
theorem FivB.ot {b':Nat}{t:Value}(h:FivB w b x y z s t)(a:b'≠b)(v:Value):FivB (w.setCell ⟨b',k,none⟩ v) b x y z s t:=by
 obtain⟨g,i,j,l,m⟩:=h.cl;exact pM (g.oth (.inl a) v) (i.oth (.inl a) v) (j.oth (.inl a) v) (l.oth (.inl a) v) (m.oth (.inl a) v)
theorem fH {t:Value}(h:FivB w b x y z s t)(v0 v1 v2 v3 a:Value):FivB (((((w.setCell ⟨b,0,none⟩ v0).setCell ⟨b,1,none⟩ v1).setCell ⟨b,2,none⟩ v2).setCell ⟨b,3,none⟩ v3).setCell ⟨b,4,none⟩ a) b v0 v1 v2 v3 a:=((((h.t0 v0).t1 v1).t2 v2).t3 v3).t4 a
theorem aK (h:xQ w W)(a:w.heap.size<=b)(v0 v1 v2 v3 g:Value):xQ w (((((W.setCell ⟨b,0,none⟩ v0).setCell ⟨b,1,none⟩ v1).setCell ⟨b,2,none⟩ v2).setCell ⟨b,3,none⟩ v3).setCell ⟨b,4,none⟩ g):=bs (bs (bs (bs (bs h a _) a _) a _) a _) a _
theorem bK (h:Keeps w W M)(a:M b)(v0 v1 v2 v3 g:Value):Keeps w (((((W.setCell ⟨b,0,none⟩ v0).setCell ⟨b,1,none⟩ v1).setCell ⟨b,2,none⟩ v2).setCell ⟨b,3,none⟩ v3).setCell ⟨b,4,none⟩ g) M :=
 lX (lX (lX (lX (lX h (p:=⟨b,0,none⟩) (.inl a) _) (p:=⟨b,1,none⟩) (.inl a) _) (p:=⟨b,2,none⟩) (.inl a) _) (p:=⟨b,3,none⟩) (.inl a) _) (p:=⟨b,4,none⟩) (.inl a) _
theorem lt8 (a:P 0)(g:P 1)(h:P 2)(i:P 3)(k:P 4)(l:P 5)(m:P 6)(o:P 7)(j:Nat)(p:j<8):P j:=by
 rcases (by omega:j=0\/j=1\/j=2\/j=3\/j=4\/j=5\/j=6\/j=7) with rfl|rfl|rfl|rfl|rfl|rfl|rfl|rfl <;> assumption
theorem cR (h:∀ j,j<8->L 8=true->L j=true)(hi:i<8)(a:L i=false):L 8=false:=by
 cases h8:L 8 with
 | false=>rfl
 | true=>exact Bool.noConfusion (a.symm.trans (h i hi h8))
theorem qV {b:Bool}(h:b=true):(a || b)=true:=by rw[h,Bool.or_true]
theorem dR {z:Nat}(h:w.ownsRow base t z v n xs):v.oneCell' = true:=by obtain⟨a,c,rfl⟩:=iY h;rfl
theorem epZ {W':World}(h:Keeps w W M)(a:xQ W W'):Keeps w W' M:=⟨a.os.trans h.os,a.tape.trans h.tape,a.output.trans h.output,bQ h.size a.size,fun k hk hn=>(a.block k (lQ hk h.size)).trans (h.block k hk hn)⟩
theorem mB {z:Nat}(h:w.ownsRow base t z v n xs)(a:b<base)(x:Value):(w.setCell ⟨b,k,none⟩ x).ownsRow base t z v n xs :=
 qA h (lX (vZ w (fun j=>j=b)) (p:=⟨b,k,none⟩) (.inl rfl) x) (fun g hg c=>by have:=(tX h hg).1;omega)
def yX (N:Nat->Prop) (v:Value):Prop:=∀ b o p n c,v=.slice (some ⟨b,o,p⟩) (n+1) c->¬ N b
theorem cK {z:Nat}(h:w.ownsRow base t z v n xs)(i:∀ m,N m->m<base):yX N v:=by
 rintro b o p k c rfl j;rcases h.2 with⟨a,_⟩|⟨g,cap,cur,e,l,_⟩
 ·cases a
 ·cases e;have:=i _ j;omega
structure Stt (w:World) (s:HSt) (dv nv:Value):Prop where
 dk:oU w dv s.disk
 dn:uJ w w.heap.size nv s.done
 iv:Inv s.done
 ln:s.disk.length<=17592186044416
 w64:rV s.disk
 i64:-9223372036854775808<=s.left/\s.left<=9223372036854775807
theorem Stt.at {s:HSt}{dv:Value}(h:Stt w s dv nv)(a:xQ w w'):Stt w' s dv nv:=⟨h.dk.at a,(h.dn.keep a).mono a.size,h.iv,h.ln,h.w64,h.i64⟩
abbrev stv (s:HSt) (dv nv:Value):Value:=.agg #[dv,int i64 s.left,.bool s.up,.bool s.brk,nv]
theorem eR (d5:mD)(s s':HSt)(dv nv:Value)(e:En)(er:Int)(w:World)(hS:Stt w s dv nv)(hs:e.2.1.size<=9223372036854775807)(ed:-9223372036854775808<=e.2.2.1/\e.2.2.1<=9223372036854775807)(hr:jZ s e=(s',er)) :
  Calls prog 15 #[stv s dv nv,ev e] w fun x w'=>∃ dv' nv',x=.returned (.tuple #[stv s' dv' nv',int i64 er])/\Stt w' s' dv' nv'/\xQ w w'/\∀ N:Nat->Prop,(∀ m,N m->m<w.heap.size)->yX N dv->yX N nv->yX N dv'/\yX N nv':=by
 obtain⟨disk,left,up,brk,done⟩:=s;obtain⟨d,nm,p,u,v⟩:=e;have du:Hid mD:=d5;obtain⟨i2,ec,ei,ej,ek⟩:=pZ uL;have HS:Hid (Stt w ⟨disk,left,up,brk,done⟩ dv nv):=hS;have HR:Hid (jZ ⟨disk,left,up,brk,done⟩ (d,nm,p,u,v)=(s',er)):=hr
 have an:Hid (rV s'.disk/\zX s'.left):=by
  have h:=agX (s:=⟨disk,left,up,brk,done⟩) (e:=(d,nm,p,u,v)) hS.w64 hS.i64;rw[hr] at h;exact h
 obtain⟨O,Q,rfl,fp,fq⟩:=hS.dk.1.slice;obtain⟨z,nc,rfl,fr,fs⟩:=hS.dn.slice;have cc:disk.length<=17592186044416:=hS.ln;have d6:done.length<=4096:=hS.iv.len;obtain⟨W0,af⟩:∃ W0,((w.alloc (.cells #[.slice O disk.length Q,int i64 left,.bool up,.bool brk,.slice z done.length nc] 66)).alloc (.cells #[int i64 d,.string nm,int i64 p,int i64 u,int i64 v] 72)).alloc (.cells #[.slice none 0 0,int i64 0,.bool false,.bool false,.slice none 0 0] 66)=W0:=⟨_,rfl⟩;have ao:Hid (xQ w W0):=af▸bal (bal (ba _ _) _) _;have ax:Hid (FivB W0 w.heap.size (.slice O disk.length Q) (int i64 left) (.bool up) (.bool brk) (.slice z done.length nc)):=af▸((FivB.new w _ _ _ _ _ 66 _ rfl).below (ba _ _)).below (ba _ _);have ay:Hid (FivB W0 (w.heap.size+1) (int i64 d) (.string nm) (int i64 p) (int i64 u) (int i64 v)):=af▸(FivB.new _ _ _ _ _ _ 72 _ (by simp)).below (ba _ _);have Z:Hid (FivB W0 (w.heap.size+1+1) (.slice none 0 0) (int i64 0) (.bool false) (.bool false) (.slice none 0 0)):=af▸FivB.new _ _ _ _ _ _ 66 _ (by simp);obtain⟨a0,a1,a2,a3,a4,_,_,_,_,_,_⟩:=ax.out;clear hr hS d5;go_enter func15,ntmps15;go_upto_region 1 with fail;clear af;by_cases h1:disk.length<9*done.length+9
 ·have hq:decide (9*(done.length:Int)+9 > (disk.length:Int))=true:=by simp;omega
  have a:=HR.out;rw[jZ,jQ h1] at a;simp only[cQ] at a;obtain⟨rfl,rfl⟩:=a;obtain⟨z0,z1,z2,z3,z4,y0,y1,y2,y3,y4,_⟩:=Z.out;go_wp2;have F:=fH Z.out (.slice O disk.length Q) (int i64 left) (.bool up) (.bool brk) (.slice z done.length nc);have FB:=aK ao.out (show w.heap.size<=w.heap.size+1+1 by omega) (.slice O disk.length Q) (int i64 left) (.bool up) (.bool brk) (.slice z done.length nc);exact eQ (v:=.tuple #[stv ⟨disk,left,up,brk,done⟩ (.slice O disk.length Q) (.slice z done.length nc),int i64 4]) (by simp[results,results15,go_sem,F.c0,F.c1,F.c2,F.c3,F.c4]) rfl ⟨_,_,rfl,HS.out.at FB,FB,fun _ _ h1 h2=>⟨h1,h2⟩⟩
 ·have hq:decide (9*(done.length:Int)+9 > (disk.length:Int))=false:=by simp;omega
  obtain⟨b0,b1,b2,b3,b4,g0,g1,g2,g3,g4,_⟩:=ay.out;go_upto_if 24 with fail
  go_cut [] (fun wx=>∃ i,Hid (nrm (d,nm,p,u,v)=(d,nm,i,u,v))/\Hid (-9223372036854775808<=i/\i<=9223372036854775807)/\Hid (xQ w wx)/\Hid (FivB wx w.heap.size (.slice O disk.length Q) (int i64 left) (.bool up) (.bool brk) (.slice z done.length nc))/\Hid (FivB wx (w.heap.size+1) (int i64 d) (.string nm) (int i64 i) (int i64 u) (int i64 v))/\Hid (FivB wx (w.heap.size+1+1) (.slice none 0 0) (int i64 0) (.bool false) (.bool false) (.slice none 0 0)))
  case first =>
   by_cases h3:d=3
   ·have ef:(d != 3)=false:=by simp[h3]
    have B:Hid (nrm (d,nm,p,u,v)=(d,nm,p,u,v)):=by simp[Hid,nrm,h3]
    clear h3;go_wp2;go_meet;exact⟨p,B,ed,ao,ax,ay,Z⟩
   ·have ef:(d != 3)=true:=by simpa using h3
    have B:Hid (nrm (d,nm,p,u,v)=(d,nm,0,u,v)):=by simp[Hid,nrm,h3]
    clear h3;go_wp2;go_meet;exact⟨0,B,⟨by decide,by decide⟩,bs ao.out (by dsimp only;omega) _,ax.out.ot (by omega) _,ay.out.t2 _,Z.out.ot (by omega) _⟩
  case rest =>
   obtain⟨i,B,e3,ck,bq,br,cn⟩:=hcut;clear a0 a1 a2 a3 a4 b0 b1 b2 b3 b4 g0 g1 g2 g3 g4 ax ay Z ao;obtain⟨R,cb⟩:∃ R,zZ done (d,nm,i,u,v)=R:=⟨_,rfl⟩;have kd:=du.out wc.heap.size (.slice z done.length nc) done (d,nm,i,u,v) wc (vQ _) (HS.out.at ck.out).dn HS.out.iv hs e3.out;rw[cb] at kd;have Y:Hid (zZ done (nrm (d,nm,p,u,v))=R):=by rw[Hid,B.out,cb]
   obtain⟨a0,a1,a2,a3,a4,_,_,_,_,_,_⟩:=bq.out;obtain⟨b0,b1,b2,b3,b4,_,_,_,_,_,_⟩:=br.out;clear cb;go_wp2_with fail;refine kd.mono ?_;rintro x2 T ⟨rfl,b5⟩;have cm:Hid (xQ w T):=bt ck.out b5;have co:Hid (FivB T w.heap.size (.slice O disk.length Q) (int i64 left) (.bool up) (.bool brk) (.slice z done.length nc)):=bq.out.below b5;have cq:Hid (FivB T (w.heap.size+1) (int i64 d) (.string nm) (int i64 i) (int i64 u) (int i64 v)):=br.out.below b5;have bv:Hid (FivB T (w.heap.size+1+1) (.slice none 0 0) (int i64 0) (.bool false) (.bool false) (.slice none 0 0)):=cn.out.below b5;clear kd a0 a1 a2 a3 a4 b0 b1 b2 b3 b4 bq br cn;obtain⟨a0,a1,a2,a3,a4,i0,i1,ce,i3,i4,_⟩:=co.out;obtain⟨b0,b1,b2,b3,b4,_,_,_,_,_,_⟩:=cq.out;obtain⟨z0,z1,z2,z3,z4,y0,y1,y2,y3,y4,_⟩:=bv.out;by_cases h9:R=0
   ·subst h9
    clear z0 z1 z2 z3 z4 y0 y1 y2 y3 y4;go_wp2_with fail;refine(a8Q (d,nm,i,u,v) _).mono ?_;rintro x3 w4 ⟨v4,rfl,db,d4⟩;obtain⟨r0,r1,r2,r3,r4,r5,r6,r7,r8,eh⟩:=dM (pN (d,nm,i,u,v));obtain⟨G,S⟩:∃ G,T.alloc (.cells (wl [9*(done.length:Int),9*(done.length:Int)+1,9*(done.length:Int)+2,9*(done.length:Int)+3,9*(done.length:Int)+4,9*(done.length:Int)+5,9*(done.length:Int)+6,9*(done.length:Int)+7,9*(done.length:Int)+8,9*(done.length:Int)]).toArray 3)=G:=⟨_,rfl⟩;have dq:Hid (G.heap.size=T.heap.size+1):=by rw[Hid,<-S];simp
    have d3:xQ T G:=S▸ba _ _
    have dp:Hid (∀ j x,([9*(done.length:Int),9*(done.length:Int)+1,9*(done.length:Int)+2,9*(done.length:Int)+3,9*(done.length:Int)+4,9*(done.length:Int)+5,9*(done.length:Int)+6,9*(done.length:Int)+7,9*(done.length:Int)+8,9*(done.length:Int)]:List Int)[j]? = some x->G.cell? ⟨T.heap.size,j,none⟩=some (int i64 x)):=fun j x C=>by
     rw[<-S];exact(Cl.new _ 3 j _ rfl (by rw[List.getElem?_toArray,wl,mV,C];rfl)).c
    have bk:xQ G w4:=S▸d4;have aj:w4.ownsRow G.heap.size 2 1 v4 9 (wl (oJ (d,nm,i,u,v))):=S▸db;have e6:Hid ((w4.alloc (.cells #[int i64 1] 2)).ownsRow G.heap.size 2 1 v4 9 (wl (oJ (d,nm,i,u,v)))):=aj.alloc _;have e4:Hid (w4.ownsRow G.heap.size 2 1 v4 9 (wl (oJ (d,nm,i,u,v)))):=aj;have bc:Hid (xQ G w4):=bk;have dt:Hid (xQ T G):=d3;clear db aj d4 bk S d3;go_wp2_with (at_builtin;refine qF _ rfl _ _ 26 rfl G.heap.size 2 i2 (int i64 0) 1 8 underlying26 ec ei ej ek rfl (by decide) _ _ _ rfl e6.out ⟨w4.heap.size,0,none⟩ 1 1 [int i64 1] rfl rfl ?q1 ?q2 ?q3 ?q4 ?q5 ?_)
    case q1=>intro j x C;match j,C with|0,C=>cases C;rw[bJ];exact(Cl.new _ 2 0 _ rfl rfl).c
    case q2=>intro x hx;simp at hx;subst hx;rfl
    case q3=>decide
    case q4=>decide
    case q5=>have:=bc.out.size;simp;omega
    intro v6 w6 I ah _;obtain⟨E,c6,rfl,fo,d7,b6⟩:=tH I
    obtain⟨g6,rfl⟩:∃ g,E=some ⟨g,0,none⟩:=by
     cases E with
     | none=>exact absurd (d7 rfl).1 (by decide)
     | some ad=>obtain⟨g,e,_⟩:=b6 ad rfl;exact⟨g,by rw[e]⟩
    have dx:Hid (G.heap.size<=g6):=by obtain⟨g',e,h,_⟩:=b6 _ rfl;cases e;exact h
    have dr:Hid (xQ G w6):=gT bc.out (vQ _) e4.out ah;have m0:w6.cell? ⟨g6,0,none⟩=some (int i64 r0):=by obtain⟨g',e,_,_,h⟩:=b6 _ rfl;cases e;exact h 0 _ rfl
    have m1:=I.frozenAt 0;clear d7 b6;obtain⟨U,dd⟩:∃ U,w6.setCell ⟨g6,0,none⟩ (int i64 0)=U:=⟨_,rfl⟩;have X:Hid (xQ G U):=dd▸bs dr.out dx.out _;have aq:Hid (xQ T U):=bt dt.out X.out
    have e5:Hid (U.ownsRow G.heap.size 2 1 (.slice (some ⟨g6,0,none⟩) 10 c6) 10 (wl [0,r1,r2,r3,r4,r5,r6,r7,r8,1])):=by
     have h:=(I.stored 0 (int i64 0)).1;rw[dd] at h;exact h
    have bf:Hid (xQ w U):=bt cm.out aq.out
    have bm:(wrs done.length (d,nm,i,u,v)).map (·.2)=[0,r1,r2,r3,r4,r5,r6,r7,r8,1]:=by
     simp[wrs,eh,show List.range 8=[0,1,2,3,4,5,6,7] from rfl]
    have bn:(wrs done.length (d,nm,i,u,v)).map (fun p=>(p.1:Int))=[9*(done.length:Int),9*(done.length:Int)+1,9*(done.length:Int)+2,9*(done.length:Int)+3,9*(done.length:Int)+4,9*(done.length:Int)+5,9*(done.length:Int)+6,9*(done.length:Int)+7,9*(done.length:Int)+8,9*(done.length:Int)]:=by
     simp[wrs,show List.range 8=[0,1,2,3,4,5,6,7] from rfl]
    obtain⟨d',D,ok,ai⟩:∃ d' D ok,nX disk left (wrs done.length (d,nm,i,u,v))=(d',D,ok):=⟨_,_,_,rfl⟩
    have kp:=dgJ (.slice O disk.length Q) (.slice (some ⟨T.heap.size,0,none⟩) 10 10) (.slice (some ⟨g6,0,none⟩) 10 c6) disk left (wrs done.length (d,nm,i,u,v)) U (HS.out.dk.at bf.out) (by
      rw[bn];have fw:=X.out.size;have fn:=dq.out;exact⟨_,_,rfl,by simp,by simp,fun _=>⟨T.heap.size,0,rfl,by omega,by omega,fun j x C=>by rw[Nat.zero_add];exact(X.out.cell (p:=⟨T.heap.size,j,none⟩) (by dsimp only;omega)).trans (dp.out j x C)⟩⟩) (by rw[bm];exact l5 e5.out rfl (by decide)) cc HS.out.i64 (fun p hp=>by have:=cqJ p hp;omega) d' D ok ai
    have a8:Hid (nX disk left (wrs done.length (d,nm,i,u,v))=(d',D,ok)):=ai;have bw:Hid (FivB U w.heap.size (.slice O disk.length Q) (int i64 left) (.bool up) (.bool brk) (.slice z done.length nc)):=co.out.below aq.out;have cr:Hid (FivB U (w.heap.size+1) (int i64 d) (.string nm) (int i64 i) (int i64 u) (int i64 v)):=cq.out.below aq.out;have bx:Hid (FivB U (w.heap.size+1+1) (.slice none 0 0) (int i64 0) (.bool false) (.bool false) (.slice none 0 0)):=bv.out.below aq.out;clear I ah bm bn ai a0 a1 a2 a3 a4 i0 i1 ce i3 i4 b0 b1 b2 b3 b4;obtain⟨a0,a1,a2,a3,a4,_,_,_,_,_,_⟩:=bw.out;go_wp2_with fail;refine kp.mono ?_;rintro x8 V ⟨ea,rfl,cd,f7,ag⟩;have cw:Hid (xQ w V):=bt bf.out ag;have c7:Hid (FivB V w.heap.size (.slice O disk.length Q) (int i64 left) (.bool up) (.bool brk) (.slice z done.length nc)):=bw.out.below ag;have dy:Hid (FivB V (w.heap.size+1) (int i64 d) (.string nm) (int i64 i) (int i64 u) (int i64 v)):=cr.out.below ag;have ct:Hid (FivB V (w.heap.size+1+1) (.slice none 0 0) (int i64 0) (.bool false) (.bool false) (.slice none 0 0)):=bx.out.below ag;have M:Hid (V.ownsRow U.heap.size 2 1 ea disk.length (wl d')):=cd;have aw:Hid (d'.length=disk.length):=pW a8.out;obtain⟨l,o,rfl,_⟩:=tH cd;have az:Hid (w.heap.size+1+1<U.heap.size):=bx.out.lt;clear kp a0 a1 a2 a3 a4 cd ag bw cr bx m0 m1;obtain⟨a0,a1,a2,a3,a4,i0,i1,ce,i3,i4,_⟩:=c7.out;cases ok with
    | false =>
     have a:=HR.out;rw[jZ,zQ h1,zQ (by rw[Y.out];simp),B.out,a8.out] at a;simp only[Bool.false_eq_true,↓reduceIte,cQ] at a;obtain⟨rfl,rfl⟩:=a;obtain⟨A,y⟩:∃ A,((V.setCell ⟨w.heap.size,0,none⟩ (.slice l disk.length o)).setCell ⟨w.heap.size,1,none⟩ (int i64 D)).setCell ⟨w.heap.size,3,none⟩ (.bool true)=A:=⟨_,rfl⟩;have a6:FivB A w.heap.size (.slice l disk.length o) (int i64 D) (.bool up) (.bool true) (.slice z done.length nc):=y▸((c7.out.t0 _).t1 _).t3 _;have a7:FivB A (w.heap.size+1+1) (.slice none 0 0) (int i64 0) (.bool false) (.bool false) (.slice none 0 0):=y▸((ct.out.ot (by omega) _).ot (by omega) _).ot (by omega) _;have au:Hid (xQ w A):=y▸bs (bs (bs cw.out (vQ _) _) (vQ _) _) (vQ _) _;have bz:Hid (Keeps V A (fun k=>k=w.heap.size\/k=w.heap.size+1+1)):=y▸lX (lX (lX (vZ V _) (p:=⟨w.heap.size,0,none⟩) (.inl (.inl rfl)) _) (p:=⟨w.heap.size,1,none⟩) (.inl (.inl rfl)) _) (p:=⟨w.heap.size,3,none⟩) (.inl (.inl rfl)) _;have cu:Hid (FivB A (w.heap.size+1+1) (.slice none 0 0) (int i64 0) (.bool false) (.bool false) (.slice none 0 0)):=a7;obtain⟨j0,j1,j2,j3,j4,_,_,_,_,_,_⟩:=a6;obtain⟨z0,z1,z2,z3,z4,y0,y1,y2,y3,y4,_⟩:=a7;go_wp2;have F:=fH cu.out (.slice l disk.length o) (int i64 D) (.bool up) (.bool true) (.slice z done.length nc);have FB:=aK au.out (show w.heap.size<=w.heap.size+1+1 by omega) (.slice l disk.length o) (int i64 D) (.bool up) (.bool true) (.slice z done.length nc);have FK:=bK bz.out (.inr rfl) (.slice l disk.length o) (int i64 D) (.bool up) (.bool true) (.slice z done.length nc);have ca:=qA M.out FK (fun g hg c=>by have:=(tX M.out hg).1;have:=az.out;omega);exact eQ (v:=.tuple #[stv ⟨d',D,up,true,done⟩ (.slice l disk.length o) (.slice z done.length nc),int i64 11]) (by simp[results,results15,go_sem,F.c0,F.c1,F.c2,F.c3,F.c4]) rfl ⟨_,_,rfl,⟨bdZ ca aw.out (by omega),(HS.out.at FB).dn,HS.out.iv,bQ (Nat.le_of_eq aw.out) cc,an.out.1,an.out.2⟩,FB,fun N hN _ h2=>⟨cK M.out fun m hm=>by have:=hN m hm;have:=az.out;omega,h2⟩⟩
    | true =>
     have a:=HR.out;rw[jZ,zQ h1,zQ (by rw[Y.out];simp),B.out,a8.out] at a;simp only[↓reduceIte,cQ] at a;obtain⟨rfl,rfl⟩:=a;obtain⟨A,y⟩:∃ A,(V.setCell ⟨w.heap.size,0,none⟩ (.slice l disk.length o)).setCell ⟨w.heap.size,1,none⟩ (int i64 D)=A:=⟨_,rfl⟩;have a6:Hid (FivB A w.heap.size (.slice l disk.length o) (int i64 D) (.bool up) (.bool brk) (.slice z done.length nc)):=y▸(c7.out.t0 _).t1 _;have dz:Hid (FivB A (w.heap.size+1) (int i64 d) (.string nm) (int i64 i) (int i64 u) (int i64 v)):=y▸(dy.out.ot (by omega) _).ot (by omega) _;have a7:Hid (FivB A (w.heap.size+1+1) (.slice none 0 0) (int i64 0) (.bool false) (.bool false) (.slice none 0 0)):=y▸(ct.out.ot (by omega) _).ot (by omega) _;have au:Hid (xQ w A):=y▸bs (bs cw.out (vQ _) _) (vQ _) _;have bz:Hid (Keeps V A (fun k=>k=w.heap.size\/k=w.heap.size+1+1)):=y▸lX (lX (vZ V _) (p:=⟨w.heap.size,0,none⟩) (.inl (.inl rfl)) _) (p:=⟨w.heap.size,1,none⟩) (.inl (.inl rfl)) _;go_upto_region 17 with fail;clear y a0 a1 a2 a3 a4 i0 i1 ce i3 i4;have dw:Hid (∀ W,xQ A W->(done.length≠0->∃ ad,z=some ad/\∀ j x,(enc done)[j]? = some x->W.cell? (ad.add j)=some x)):=fun W hW=>mW ((HS.out.at (bt au.out hW)).dn)
     refine zO [76,77,78,79,80,81,82,83] (fun L H W=>vV [(1,77,.pointer (some ⟨w.heap.size,4,none⟩)),(2,78,.slice z done.length nc),(4,80,.agg #[int i64 d,.string nm,int i64 i,int i64 u,int i64 v]),(7,83,.pointer (some ⟨w.heap.size,4,none⟩))] L H /\
      ((∀ j,j<8->L 8=true->L j=true)/\(L 8=false->AA A (fun _=>False) 72 5 done.length (enc done) (yG (d,nm,i,u,v)) (L 0) (L 3) (L 5) (L 6) false (H 76) (H 79) (H 81) (H 82) W)/\(L 8=true->∃ W',xQ A W'/\W'.ownsRow A.heap.size 72 5 (H 82) (done.length+1) (enc (done++[(d,nm,i,u,v)]))/\W=W'.setCell ⟨w.heap.size,4,none⟩ (H 82)))) [0,1,2,3,4,5,6,7,8] (by kernel_rfl) ⟨?_,?_,?_,?_,?_,?_,?_,?_,?_,trivial⟩ (by kernel_rfl) ?_ ?_
     all_goals first
      | (refine mT rfl rfl (by decide) rfl rfl (fun _ _ _ h=>⟨fun j C e=>qV (h.1 j C e),h.2⟩) (fun L H W h0 hd hT hX=>?_);have hb:=(hX.2.1 (cR hX.1 (by decide) h0)).bel;obtain⟨k0,k1,k2,k3,k4,_,_,_,_,_,_⟩:=a6.out.below hb;obtain⟨l0,l1,l2,l3,l4,_,_,_,_,_,_⟩:=dz.out.below hb;clear hX;first | (go_simp;done) | (have q:=hT.get 0 rfl (hd 1 (by decide));go_simp;done))
      | skip
     ·refine bV rfl rfl rfl (fun L H W h0 hd hT hX K hK=>?_)
      have h8:=cR hX.1 (by decide) h0;exact gG (v:=.slice (some ⟨W.heap.size,0,none⟩) 0 0) (w':=W.alloc (.cells #[] 72)) (by go_simp) (hK _ _ ⟨fun j C e=>qV (hX.1 j C e),fun _=>(hX.2.1 h8).row0,fun e=>Bool.noConfusion (h8.symm.trans e)⟩)
     ·refine bV rfl rfl rfl (fun L H W h0 hd hT hX K hK=>?_)
      have h8:=cR hX.1 (by decide) h0;have hA:=hX.2.1 h8;exact hA.app2e (.tmp 76) (.tmp 78) rfl (vY (by decide) (by simp)) ((vY (by decide) (by simp)).trans (hT.get 1 rfl (hd 2 (by decide)))) (hd 0 (by decide)) h0 d6 (dw.out W hA.bel) (fun v w' k _ _=>hK v w' ⟨fun j C e=>qV (hX.1 j C e),fun _=>k,fun e=>Bool.noConfusion (h8.symm.trans e)⟩)
     ·refine bV rfl rfl rfl (fun L H W h0 hd hT hX K hK=>?_)
      have h8:=cR hX.1 (by decide) h0;have q:=hT.get 2 rfl (hd 4 (by decide));exact gG (v:=.slice (some ⟨W.heap.size,0,none⟩) 1 1) (w':=W.alloc (.cells #[int i64 d,.string nm,int i64 i,int i64 u,int i64 v] 72)) (by go_simp) (hK _ _ ⟨fun j C e=>qV (hX.1 j C e),fun _=>(hX.2.1 h8).row4 h0,fun e=>Bool.noConfusion (h8.symm.trans e)⟩)
     ·refine bV rfl rfl rfl (fun L H W h0 hd hT hX K hK=>?_)
      have h8:=cR hX.1 (by decide) h0;exact(hX.2.1 h8).app5e (.tmp 79) (.tmp 81) rfl (vY (by decide) (by simp)) (vY (by decide) (by simp)) (hd 3 (by decide)) (hd 5 (by decide)) h0 d6 (fun v w' k _ _=>hK v w' ⟨fun j C e=>qV (hX.1 j C e),fun _=>k,fun e=>Bool.noConfusion (h8.symm.trans e)⟩)
     ·refine a7Z 40 83 82 rfl rfl rfl (by simp) (by simp) (by kernel_rfl) (by kernel_rfl) (fun L H W h0 hd hT hX=>?_)
      exact
       have hA:=hX.2.1 h0;have ro:=(hA.f5 (hd 6 (by decide))).2.2 rfl;have fk:=a6.out.below hA.bel;have eb:∀ j,j<8->L j=true:=lt8 (P:=fun j=>L j=true) (hd 0 (by decide)) (hd 1 (by decide)) (hd 2 (by decide)) (hd 3 (by decide)) (hd 4 (by decide)) (hd 5 (by decide)) (hd 6 (by decide)) (hd 7 (by decide))
       ⟨w.heap.size,4,.slice z done.length nc,hT.get 3 rfl (hd 7 (by decide)),dR ro,fk.c4,fk.f4,fun j C _=>qV (eb j C),fun h=>Bool.noConfusion h,fun _=>⟨W,hA.bel,(wN done _).symm▸ro,rfl⟩⟩
     ·intro L H W hL ⟨hT,_,_,s8⟩
      obtain⟨W',ac,ro,rfl⟩:=s8 (hL 8 (by decide));simp only[ov,List.foldl_cons,List.foldl_nil,List.setIfInBounds_toArray,List.set_cons_zero,List.set_cons_succ];obtain⟨E,J,cy⟩:=iY ro;obtain⟨de,bp⟩:∃ de,H 82=de:=⟨_,rfl⟩;rw[bp] at ro cy ⊢;subst cy;have e7:Hid (W'.ownsRow A.heap.size 72 5 (.slice E (done.length+1) J) (done.length+1) (enc (done++[(d,nm,i,u,v)]))):=ro;have cv:Hid (FivB (W'.setCell ⟨w.heap.size,4,none⟩ (.slice E (done.length+1) J)) w.heap.size (.slice l disk.length o) (int i64 D) (.bool up) (.bool brk) (.slice E (done.length+1) J)):=(a6.out.below ac).t4 _;have c8:Hid (FivB (W'.setCell ⟨w.heap.size,4,none⟩ (.slice E (done.length+1) J)) (w.heap.size+1+1) (.slice none 0 0) (int i64 0) (.bool false) (.bool false) (.slice none 0 0)):=(a7.out.below ac).ot (by omega) _;have bb:Hid (xQ w (W'.setCell ⟨w.heap.size,4,none⟩ (.slice E (done.length+1) J))):=bs (bt au.out ac) (vQ _) _;have bg:Hid (Keeps V (W'.setCell ⟨w.heap.size,4,none⟩ (.slice E (done.length+1) J)) (fun k=>k=w.heap.size\/k=w.heap.size+1+1)):=lX (epZ bz.out ac) (p:=⟨w.heap.size,4,none⟩) (.inl (.inl rfl)) _;have c9:Hid (w.heap.size+1+1<A.heap.size):=a7.out.lt;clear hT s8 hL ac ro bp;obtain⟨b8,ak⟩:∃ b8,W'.setCell ⟨w.heap.size,4,none⟩ (.slice E (done.length+1) J)=b8:=⟨_,rfl⟩;have a9:Hid (b8.ownsRow A.heap.size 72 5 (.slice E (done.length+1) J) (done.length+1) (enc (done++[(d,nm,i,u,v)]))):=ak▸mB e7.out (by have:=c9.out;omega) _;rw[ak] at cv c8 bb bg ⊢;clear ak;obtain⟨j0,j1,j2,j3,j4,_,_,_,_,_,_⟩:=cv.out;obtain⟨z0,z1,z2,z3,z4,y0,y1,y2,y3,y4,_⟩:=c8.out;go_wp2;have F:=fH c8.out (.slice l disk.length o) (int i64 D) (.bool up) (.bool brk) (.slice E (done.length+1) J);have FB:=aK bb.out (show w.heap.size<=w.heap.size+1+1 by omega) (.slice l disk.length o) (int i64 D) (.bool up) (.bool brk) (.slice E (done.length+1) J);have FK:=bK bg.out (.inr rfl) (.slice l disk.length o) (int i64 D) (.bool up) (.bool brk) (.slice E (done.length+1) J);have FR:=bK (vZ b8 (fun k=>k=w.heap.size+1+1)) rfl (.slice l disk.length o) (int i64 D) (.bool up) (.bool brk) (.slice E (done.length+1) J);have ca:=qA M.out FK (fun g hg c=>by have:=(tX M.out hg).1;have:=az.out;omega);have e9:=qA a9.out FR (fun g hg c=>by have:=(tX a9.out hg).1;have:=c9.out;omega);have hinv:Inv (done++[(d,nm,i,u,v)]):=tS HS.out.iv (by rw[<-B.out];exact Y.out) (by rw[<-B.out];exact oS _);have e8:uJ _ _ (.slice E (done.length+1) J) (done++[(d,nm,i,u,v)]):=wI (by rw[sY,oK];exact e9) (by have:=hinv.len;omega) (fun x hx=>bQ (lP hinv x hx) (by decide));refine eQ (v:=.tuple #[stv ⟨d',D,up,brk,done++[(d,nm,i,u,v)]⟩ (.slice l disk.length o) (.slice E (done.length+1) J),int i64 0]) (by simp[results,results15,go_sem,F.c0,F.c1,F.c2,F.c3,F.c4]) rfl ⟨_,_,rfl,⟨bdZ ca aw.out (by omega),e8,hinv,bQ (Nat.le_of_eq aw.out) cc,an.out.1,an.out.2⟩,FB,fun N hN _ _=>⟨cK M.out fun m hm=>by have:=hN m hm;have:=az.out;omega,cK a9.out fun m hm=>by have:=hN m hm;have:=c9.out;omega⟩⟩
     ·intro H
      exact⟨fun t _ h=>Bool.noConfusion h,fun _ _ h=>Bool.noConfusion h,fun _=>AA.zero _ _ _ _,fun h=>Bool.noConfusion h⟩
   ·have fu:(R != 0)=true:=by simpa using h9
    have a:=HR.out;rw[jZ,zQ h1,jQ (by rw[Y.out];exact h9),Y.out] at a;simp only[cQ] at a;obtain⟨rfl,rfl⟩:=a;clear h9;go_wp2;have F:=fH bv.out (.slice O disk.length Q) (int i64 left) (.bool up) (.bool brk) (.slice z done.length nc);have FB:=aK cm.out (show w.heap.size<=w.heap.size+1+1 by omega) (.slice O disk.length Q) (int i64 left) (.bool up) (.bool brk) (.slice z done.length nc);exact eQ (v:=.tuple #[stv ⟨disk,left,up,brk,done⟩ (.slice O disk.length Q) (.slice z done.length nc),int i64 R]) (by simp[results,results15,go_sem,F.c0,F.c1,F.c2,F.c3,F.c4]) rfl ⟨_,_,rfl,HS.out.at FB,FB,fun _ _ h1 h2=>⟨h1,h2⟩⟩
theorem yX.imp (h:yX N v)(hi:∀ m,N' m->N m):yX N' v:=fun b o p n c e hb=>h b o p n c e (hi _ hb)
theorem agZ {xs:List Int}(h:oU w v xs)(j:Keeps w w' N)(ha:yX N v):oU w' v xs:=by
 obtain⟨⟨a,c,rfl,k,l,m⟩,p⟩:=h;refine⟨⟨a,c,rfl,k,l,fun hne=>?_⟩,p⟩;obtain⟨b,o,rfl,A,B,hc⟩:=m hne;obtain⟨n,g⟩:∃ n,xs.length=n+1:=⟨xs.length - 1,by have:=aoQ.2 hne;omega⟩;have y:¬ N b:=ha b o none n c (by rw[g]);have C:=j.size;exact⟨b,o,rfl,by omega,by omega,fun i z hi=>(vJ (w:=w) (a:=⟨b,o+i,none⟩) (j.block b A y)).trans (hc i z hi)⟩
theorem fR {l:List En}(h:uJ w B v l)(hB:B<=w.heap.size)(C:Keeps w w' N)(ha:yX N v):uJ w' B v l:=by
 obtain⟨a,c,rfl,k,m,p,y⟩:=h;refine⟨a,c,rfl,k,m,p,fun hne=>?_⟩;obtain⟨b,o,rfl,A,hc⟩:=y hne;obtain⟨n,g⟩:∃ n,l.length=n+1:=⟨l.length - 1,by have:=aoQ.2 hne;omega⟩;have z:¬ N b:=ha b o none n c (by rw[g]);have e:∀ j,w'.cell? ⟨b,j,none⟩=w.cell? ⟨b,j,none⟩:=fun j=>vJ (w:=w) (a:=⟨b,j,none⟩) (C.block b (by omega) z);refine⟨b,o,rfl,A,fun i x hi=>?_⟩;rw[e,e,e,e,e];exact hc i x hi
theorem Stt.kp {s:HSt}{dv:Value}(h:Stt w s dv nv)(a:Keeps w w' N)(g:yX N dv)(i:yX N nv):Stt w' s dv nv :=
 ⟨agZ h.dk a g,(fR h.dn (vQ _) a i).mono a.size,h.iv,h.ln,h.w64,h.i64⟩
theorem yX.or (h:yX N v)(a:yX N' v):yX (fun k=>N k\/N' k) v:=fun b o p n c e hb=>hb.elim (h b o p n c e) (a b o p n c e)
theorem yX.nil :yX N (.slice none n c):=fun _ _ _ _ _ e=>by cases e
theorem nB {xs:List Int}(h:oU w v xs)(k:∀ m,N m->w.heap.size<=m):yX N v:=by
 rintro b o p n c e l;obtain⟨a,y,g,_,_,j⟩:=h.1;rw[e] at g;simp only[yZ] at g;obtain⟨b',A,e2,z,_⟩:=j (fun c=>by rw[c] at g;simp at g);have i:=g.1;rw[e2] at i;cases i;have:=k _ l;omega
theorem agJ {l:List En}(h:uJ w w.heap.size v l)(k:∀ m,N m->w.heap.size<=m):yX N v:=by
 rintro b o p n c e y;obtain⟨a,z,g,_,_,_,j⟩:=h;rw[e] at g;simp only[yZ] at g;obtain⟨b',B,e2,A,_⟩:=j (fun c=>by rw[c] at g;simp at g);have i:=g.1;rw[e2] at i;cases i;have:=k _ y;omega
theorem Stt.avd {s:HSt}{dv:Value}(h:Stt w s dv nv)(a:∀ m,N m->w.heap.size<=m):yX N dv/\yX N nv:=⟨nB h.dk a,agJ h.dn a⟩
theorem epJ (h:w.ownsRow base t 1 v n xs):n<=9223372036854775807:=by
 rcases h.2 with⟨_,a⟩|⟨g,cap,cur,_,_,_,j,i,_⟩
 ·omega
 ·have:maxLen=9223372036854775807:=rfl
  omega
theorem bzX {xs:List Int}(h:w.ownsRow base t 1 v n (wl xs))(p:xs.length=n)(y:n<=9223372036854775807):oU w v xs:=by
 obtain⟨a,c,rfl,k,j,l⟩:=tH h;subst p;refine⟨⟨a,c,rfl,k,y,fun hne=>?_⟩,fun m c' e=>by cases e;exact(j rfl).2⟩;cases a with
 | none=>exact absurd (j rfl).1 (by simpa using hne)
 | some ad =>
  obtain⟨g,rfl,_,o,hc⟩:=l _ rfl;refine⟨g,0,rfl,o,by omega,fun i z hi=>?_⟩;rw[vX];exact hc i _ (by simp[wl,mV,hi])
theorem FivB.kp {t:Value}(h:FivB w b x y z s t)(a:Keeps w w' N)(g:¬ N b):FivB w' b x y z s t:=by
 obtain⟨i,j,k,l,m⟩:=h.cl;exact pM (wV i a g) (wV j a g) (wV k a g) (wV l a g) (wV m a g)
end K.P
section
open Go.RowKit Ds
open K (Cl)
open K.P (HSt Keeps xX lX vZ jZ gZ Ev Sn oA tZ TwoB FivB Stt yX oU agZ fR nB agJ qA tX enc)
def nF (w:World) (N:Nat->Prop) (x:Sn rY) (cs:List Value):Prop :=
 ∃ vv nv us lu ld,cs=[int i64 x.err,vv,int i64 us,int i64 lu,int i64 ld,nv]/\(yX N vv/\yX N nv)/\K.P.uJ w w.heap.size nv x.ents /\
  ((x.told=none/\vv=.slice none 0 0/\us=0/\lu=0/\ld=0)\/(∃ (vs:List Int) (n:Nat),x.told=some (vs,n,lu,ld)/\us=(n:Int)/\oU w vv vs))
theorem nF.kp {x:Sn rY}{cs:List Value}(h:nF w N x cs)(g:Keeps w w' M)(o:∀ k,M k->N k)(p:∀ k,N' k->N k\/w.heap.size<=k):nF w' N' x cs:=by
 obtain⟨G,v,F,C,B,z,⟨j,l⟩,m,a⟩:=h;have A:yX N' v:=(l.or (agJ (N:=fun k=>w.heap.size<=k) m (fun _ h=>h))).imp p;refine⟨G,v,F,C,B,z,⟨?_,A⟩,(fR m (vQ _) g (l.imp o)).mono g.size,?_⟩
 ·rcases a with⟨_,rfl,_⟩|⟨y,n,_,_,i⟩
  ·exact K.P.yX.nil
  ·exact(j.or (nB (N:=fun k=>w.heap.size<=k) i (fun _ h=>h))).imp p
 ·rcases a with a|⟨y,n,D,E,i⟩
  ·exact .inl a
  ·exact .inr ⟨y,n,D,E,agZ i g (j.imp o)⟩
theorem eqQ (w:World)(N:Nat->Prop)(er:Int):nF w N ⟨er,none,[]⟩ [int i64 er,.slice none 0 0,int i64 0,int i64 0,int i64 0,.slice none 0 0] :=
 ⟨_,_,_,_,_,rfl,⟨K.P.yX.nil,K.P.yX.nil⟩,⟨none,0,rfl,vQ _,by simp,fun x h=>by(cases h),fun h=>absurd rfl h⟩,.inl ⟨rfl,rfl,rfl,rfl,rfl⟩⟩
structure PlI (W0 wr:World) (N0 bS:Nat) (E:Nat->Prop) (l:List K.Ds.aQ) (ts:List (List Int)) (ov dv nv:Value) (s:HSt) (os:List (Sn rY)):Prop where
 be:Below N0 W0 wr
 nb:N0<=bS/\N0<=W0.heap.size
 st:FivB wr bS dv (int i64 s.left) (.bool s.up) (.bool s.brk) nv
 sm:Stt wr s dv nv
 up:s.up=true->K.Ds.fV l ts=0
 av:yX (fun k=>k=bS\/ov.ownBlock=some k\/E k) dv/\yX (fun k=>k=bS\/ov.ownBlock=some k\/E k) nv
 ee:∀ k,E k->N0<=k/\k≠bS/\ov.ownBlock≠some k/\k<wr.heap.size
 ob:ov.ownBlock≠some bS
 out:∃ css:List (List Value),css.length=os.length/\wr.ownsRow N0 42 6 ov os.length css.flatten/\∀ (i:Nat) x cs,os[i]? = some x->css[i]? = some cs->nF wr (fun k=>k=bS\/ov.ownBlock=some k\/E k) x cs
section
variable {W0 wr w':World} {N0 bS:Nat} {E E' M:Nat->Prop} {l:List K.Ds.aQ} {ts:List (List Int)} {ov dv nv dv' nv':Value} {s s':HSt} {os:List (Sn rY)}
theorem PlI.kp (h:PlI W0 wr N0 bS E l ts ov dv nv s os)(a:Keeps wr w' M)(j:∀ k,M k->E k):PlI W0 w' N0 bS E l ts ov dv nv s os:=by
 obtain⟨o,y,z,A⟩:=h.out;have v:=a.size;have p:=h.be.size;refine⟨⟨a.os.trans h.be.os,a.tape.trans h.be.tape,a.output.trans h.be.output,bQ p v,fun k hlt=>(a.block k (by have:=h.nb.2;omega) (fun m=>by have:=(h.ee k (j k m)).1;omega)).trans (h.be.block k hlt)⟩,h.nb,h.st.kp a (fun m=>(h.ee _ (j _ m)).2.1 rfl),h.sm.kp a (h.av.1.imp fun k m=>.inr (.inr (j k m))) (h.av.2.imp fun k m=>.inr (.inr (j k m))),h.up,h.av,fun k m=>?_,h.ob,o,y,qA z a (fun g hg m=>(h.ee g (j g m)).2.2.1 hg),fun i x cs hx hc=>(A i x cs hx hc).kp a (fun k m=>.inr (.inr (j k m))) (fun k m=>.inl m)⟩;obtain⟨B,C,D,F⟩:=h.ee k m;exact⟨B,C,D,by omega⟩
theorem PlI.more (h:PlI W0 wr N0 bS E l ts ov dv nv s os)(a:xQ wr w')(p:∀ k,E' k->E k\/wr.heap.size<=k/\k<w'.heap.size):PlI W0 w' N0 bS E' l ts ov dv nv s os:=by
 obtain⟨j,B,y,C⟩:=h.out;have A:=a.size;have z:=h.be.size;have I:=h.nb
 have o:∀ k,(k=bS\/ov.ownBlock=some k\/E' k)->(k=bS\/ov.ownBlock=some k\/E k)\/wr.heap.size<=k:=fun k m=>by
  rcases m with m|m|m
  ·exact .inl (.inl m)
  ·exact .inl (.inr (.inl m))
  ·exact(p k m).imp (fun e=>.inr (.inr e)) (fun e=>e.1)
 have v:=h.sm.avd (N:=fun k=>wr.heap.size<=k) (fun _ m=>m);refine⟨⟨a.os.trans h.be.os,a.tape.trans h.be.tape,a.output.trans h.be.output,bQ z A,fun k hlt=>(a.block k (by omega)).trans (h.be.block k hlt)⟩,h.nb,h.st.below a,h.sm.at a,h.up,⟨(h.av.1.or v.1).imp o,(h.av.2.or v.2).imp o⟩,fun k m=>?_,h.ob,j,B,qA y (xX a) (fun g hg m=>m),fun i x cs hx hc=>(C i x cs hx hc).kp (M:=fun _=>False) (xX a) (fun k m=>m.elim) o⟩;rcases p k m with e|e
 ·obtain⟨D,F,G,J⟩:=h.ee k e
  exact⟨D,F,G,by omega⟩
 ·have H:=h.st.lt
  exact⟨by omega,by omega,fun c=>by have:=(tX y c).2;omega,e.2⟩
theorem PlI.sto (h:PlI W0 wr N0 bS E l ts ov dv nv s os)(a:Keeps wr w' (fun k=>k=bS))(p:FivB w' bS dv' (int i64 s'.left) (.bool s'.up) (.bool s'.brk) nv')(o:Stt w' s' dv' nv')(z:yX (fun k=>k=bS\/ov.ownBlock=some k\/E k) dv'/\yX (fun k=>k=bS\/ov.ownBlock=some k\/E k) nv')(y:s'.up=true->K.Ds.fV l ts=0):PlI W0 w' N0 bS E l ts ov dv' nv' s' os:=by
 obtain⟨j,C,D,F⟩:=h.out;have B:=a.size;have A:=h.be.size;have v:=h.nb;exact⟨⟨a.os.trans h.be.os,a.tape.trans h.be.tape,a.output.trans h.be.output,bQ A B,fun k hlt=>(a.block k (by omega) (fun m=>by omega)).trans (h.be.block k hlt)⟩,v,p,o,y,z,fun k m=>let ⟨q1,q2,q3,q4⟩:=h.ee k m;⟨q1,q2,q3,by omega⟩,h.ob,j,C,qA D a (fun g hg m=>h.ob (by rw[<-m];exact hg)),fun i x cs hx hc=>(F i x cs hx hc).kp a (fun k m=>.inl m) (fun k m=>.inl m)⟩
theorem PlI.pl (h:PlI W0 wr N0 bS E l ts ov dv nv s os):∀ k,(k=bS\/ov.ownBlock=some k\/E k)->k<wr.heap.size:=fun k m=>by
 obtain⟨a,_,g,_⟩:=h.out;rcases m with m|m|m
 ·rw[m];exact h.st.lt
 ·exact(tX g m).2
 ·exact(h.ee k m).2.2.2
theorem eqX {rest:List Oper}{y:Sn rY}{er us lu ld:Int}{tn tc en ec:Nat}{i4:TypeInfo}
  (g:PlI W0 wr N0 bS E l ts ov dv nv s os) (Z:nF wr (fun k=>k=bS\/ov.ownBlock=some k\/E k) y [int i64 er,.slice ta tn tc,int i64 us,int i64 lu,int i64 ld,.slice ea en ec]) (aa:os.length<=1000000000000) (P:prog.info? 42=some i4) (G:i4.zero=some (.agg #[int i64 0,.slice none 0 0,int i64 0,int i64 0,int i64 0,.slice none 0 0])) (H:i4.size=6) (I:i4.bytes=80)
  (L:o1.guard=none) (x:Operand) (h1:o1.op=.buildSlice 28 1 #[(0,x)]) (d1:Option Tmp) (O:o1.dst=d1) (p:act.eval x=.agg #[int i64 er,.slice ta tn tc,int i64 us,int i64 lu,int i64 ld,.slice ea en ec]) (hf:prog.builtSlice 42 1 [(0,.agg #[int i64 er,.slice ta tn tc,int i64 us,int i64 lu,int i64 ld,.slice ea en ec])]=some #[int i64 er,.slice ta tn tc,int i64 us,int i64 lu,int i64 ld,.slice ea en ec]) (M:o2.guard=none) (T x2:Operand) (h2:o2.op=.call { callee:=.builtin .append,args:=#[T,x2],argTypes:=#[28,28] })
  (R:(act.put d1 (.slice (some ⟨wr.heap.size,0,none⟩) 1 1)).eval T=ov) (S:(act.put d1 (.slice (some ⟨wr.heap.size,0,none⟩) 1 1)).eval x2=.slice (some ⟨wr.heap.size,0,none⟩) 1 1)
  (hK:∀ v cap A,Hid (PlI W0 A N0 bS (fun _=>False) l ts (.slice (some ⟨v,0,none⟩) (os.length+1) cap) dv nv s (os++[y]))->wpList prog ops Q rest ((act.put d1 (.slice (some ⟨wr.heap.size,0,none⟩) 1 1)).put o2.dst (.slice (some ⟨v,0,none⟩) (os.length+1) cap)) A):wpList prog ops Q (o1::o2::rest) act wr:=by
 obtain⟨B,X,Y,q3⟩:=g.out;have a8:N0<=wr.heap.size:=by have:=g.be.size;have:=g.nb.2;omega
 refine Great.wpList_buildSliceTo L 28 42 1 _ h1 wr.heap.size rfl d1 O underlying28 #[int i64 er,.slice ta tn tc,int i64 us,int i64 lu,int i64 ld,.slice ea en ec] (by simpa [p] using hf) ?_;refine wpList_append_lies _ M T x2 28 h2 N0 42 i4 _ 6 80 underlying28 P G H I rfl (by decide) ov os.length B.flatten R (Y.alloc _) ⟨wr.heap.size,0,none⟩ 1 1 [int i64 er,.slice ta tn tc,int i64 us,int i64 lu,int i64 ld,.slice ea en ec] S rfl (fun j u hj=>?_) (fun u hu=>?_) (by decide) (by unfold maxLen;omega) (by omega) (by simp;omega) (wr.heap.size+1) (by simp) ?_
 ·have e:(⟨wr.heap.size,0,none⟩:Addr).add j=⟨wr.heap.size,j,none⟩:=by unfold Addr.add;split <;> simp_all
  rw[e];exact(Bx.new wr [int i64 er,.slice ta tn tc,int i64 us,int i64 lu,int i64 ld,.slice ea en ec] 42 rfl j u hj).c
 ·simp only[kJ,cI,dI] at hu
  rcases hu with rfl|rfl|rfl|rfl|rfl|rfl <;> rfl
 ·intro v cap A F a C U
  have o:wr.grownBy A ov.ownBlock:=⟨a.os,a.tape,a.output,bQ (by simp) a.size,fun k h D=>(a.block k (by simp;omega) D).trans (tM _ _ _ h)⟩;have h:Keeps wr A (fun k=>ov.ownBlock=some k):=⟨o.os,o.tape,o.output,o.size,fun k h D=>o.block k h (fun e=>D e.symm)⟩;have hz:=h.size;have hw:=g.be.size;have D:=g.nb;have z:=g.st.lt
  have J:∀ k,(k=bS\/(Value.slice (some ⟨v,0,none⟩) (os.length+1) cap).ownBlock=some k\/False)->(k=bS\/ov.ownBlock=some k\/E k)\/wr.heap.size<=k:=fun k m=>by
   rcases m with m|m|m
   ·exact .inl (.inl m)
   ·rcases C with e|e
    ·exact .inl (.inr (.inl (e.trans (by cases m;rfl))))
    ·cases m;exact .inr (show wr.heap.size<=v by omega)
   ·exact m.elim
  have V:=g.sm.avd (N:=fun k=>wr.heap.size<=k) (fun _ m=>m);refine hK v cap A ⟨⟨h.os.trans g.be.os,h.tape.trans g.be.tape,h.output.trans g.be.output,bQ hw hz,fun k z=>(h.block k (by omega) (fun m=>by have:=(tX Y m).1;omega)).trans (g.be.block k z)⟩,D,g.st.kp h g.ob,g.sm.kp h (g.av.1.imp fun k m=>.inr (.inl m)) (g.av.2.imp fun k m=>.inr (.inl m)),g.up,⟨(g.av.1.or V.1).imp J,(g.av.2.or V.2).imp J⟩,fun k m=>m.elim,fun e=>?_,B++[[int i64 er,.slice ta tn tc,int i64 us,int i64 lu,int i64 ld,.slice ea en ec]],by simp[X],?_,fun i x cs p hc=>?_⟩
  ·cases e
   rcases C with e|e
   ·exact g.ob e
   ·have:wr.heap.size<=v:=by omega
    exact absurd z (Nat.not_lt.2 this)
  ·rw[sY,oK,List.flatten_append]
   simpa using F
  ·by_cases hi:i<os.length
   ·rw[gO hi] at p
    rw[gO (by omega)] at hc;exact(q3 i x cs p hc).kp h (fun k m=>.inr (.inl m)) J
   ·have e:i=os.length:=by
     have:=(fQ.1 p).1;rw[sY,oK] at this;omega
    subst e;rw[mH (vQ _)] at p;rw[mH (by omega)] at hc;rw[X] at hc;simp only[iI,List.getElem?_cons_zero,aZ] at p hc;subst p hc;exact Z.kp h (fun k m=>.inr (.inl m)) J
end
open K (Cl)
theorem eqZ (B p v:Nat)(a1 a2:Option Addr)(c1 c2:Nat)(a:List Int)(i h g:Int)(w:World)(hB:B<=w.heap.size)(l:yQ w B p (.slice a1 a.length c1) a)(m:yQ w B v (.slice a2 a.length c2) a) :
  Calls prog 7 #[.agg #[.slice a1 a.length c1,int i64 i,int i64 h,int i64 g],.agg #[.slice a2 a.length c2,int i64 i,int i64 h,int i64 g]] w (iQ w (.bool true)):=by
 obtain⟨W,j⟩:∃ W,(w.alloc (.cells #[.slice a1 a.length c1,int i64 i,int i64 h,int i64 g] 39)).alloc (.cells #[.slice a2 a.length c2,int i64 i,int i64 h,int i64 g] 39)=W:=⟨_,rfl⟩;have k:Hid (xQ w W):=j▸bal (ba _ _) _;have y:Hid (Bx W w.heap.size [.slice a1 a.length c1,int i64 i,int i64 h,int i64 g]):=j▸(Bx.new _ [.slice a1 a.length c1,int i64 i,int i64 h,int i64 g] 39 rfl).at (ba _ _);have z:Hid (Bx W (w.heap.size+1) [.slice a2 a.length c2,int i64 i,int i64 h,int i64 g]):=j▸Bx.new _ [.slice a2 a.length c2,int i64 i,int i64 h,int i64 g] 39 (by simp);have o:=nD B p v _ _ a a W (l.keep (k.out.mono hB)) (m.keep (k.out.mono hB)) 0 (aP a);obtain⟨⟨x0,x1,x2,x3⟩,_,_,_,_⟩:=rU y.out;obtain⟨⟨y0,y1,y2,y3⟩,_,_,_,_⟩:=rU z.out;clear l m;go_enter func7,ntmps7;go_wp2_with fail;refine o.mono ?_;rintro e A ⟨rfl,q,rfl⟩;clear j o;go_wp2;go_ret;exact⟨rfl,Go.below_drewN k.out q⟩
end
namespace K
open Go.RowKit K.Ds
theorem b0Z {l:List aQ}{s:ByteArray}:eF l s<0↔(fnd l s).isSome=false:=by
 cases h:fnd l s with
 | none=>simp[lM h]
 | some i=>simp[zI h]
theorem iL (B:Nat)(v:Value)(l:List aQ)(s:ByteArray)(w:World)(hB:B<=w.heap.size)(E:kQ w B v l)(r:Int)(F:eF l s=r) :
  Calls prog 73 #[v,.string s] w (iQ w (int i64 r)):=by
 have G:=qQ E;have C:=qQ F;obtain⟨a,c,rfl,hc,I⟩:=E.slice;clear F;go_enter func73,ntmps73;go_wp2
 go_loopw [9] (fun s' wr=>∃ (i:Nat),s' = int i64 (i:Int)/\i<=l.length/\Hid (cM l s i)/\xQ w wr) (fun s' _=>l.length - (intOf s').toNat)
 case atStart=>exact⟨0,rfl,dQ _,fun j c hj=>by omega,uQ _ _⟩
 case round =>
  obtain⟨i,rfl,hi,p,g⟩:=hrel;by_cases D:i<l.length
  ·obtain⟨b,o,nm,sz,rfl,H,k,c1,c2,J⟩:=G.out.get hB g D
   have A:=qQ k;clear k;have m:=wG nm s;by_cases h:nm=s
   ·have z:(nm.toList == s.toList)=true:=by rw[m];simp[h]
    obtain rfl:(i:Int)=r:=by rw[<-C.out];exact(zI (a0Q p.out A.out h)).symm
    clear m h;go_wp2;go_ret;exact⟨rfl,bal g _⟩
   ·have z:(nm.toList == s.toList)=false:=by rw[m];simp[h]
    have y:=qQ (p.out.next A.out h);clear m h;go_wp2
    go_roundw
    case rel=>exact⟨i+1,by go_num,D,y,bal g _⟩
    case measure=>simp[intOf];omega
  ·obtain rfl:-1=r:=by rw[<-C.out];exact(lM (a0X (by have:=p.out;rwa [show i=l.length by omega] at this))).symm
   go_wp2;go_ret;exact⟨rfl,g⟩
theorem aiX (B:Nat)(J v:Value)(l:List aQ)(g:List cX)(w:World)(hB:B<=w.heap.size)(N:kQ w B J l)(O:qZ w B v g)(er:Int)(P:pJ l g=er) :
  Calls prog 187 #[J,v] w (iQ w (int i64 er)):=by
 have S:Hid (kQ w B J l):=N;have T:Hid (qZ w B v g):=O;have L:Hid (pJ l g=er):=P;obtain⟨a,c,rfl,hc,hl⟩:=O.slice;obtain⟨a',c',rfl,U,Y⟩:=N.slice;clear P;go_enter func187,ntmps187;by_cases y:64<g.length
 ·obtain rfl:4=er:=by rw[<-L.out,pJ,jQ y]
  have I:(64:Int)<(g.length:Int):=by omega
  go_wp2;go_ret;exact⟨rfl,uQ _ _⟩
 have H:Hid (zD l g=er):=by have:=L.out;rwa [pJ,zQ y] at this
 have I:¬ (64:Int)<(g.length:Int):=by omega
 go_wp2
 go_loopw [12] (fun s wr=>∃ (i:Nat),s=int i64 (i:Int)/\i<=g.length/\Hid (zD l (g.drop i)=er)/\xQ w wr) (fun s _=>g.length - (intOf s).toNat)
 case atStart=>exact⟨0,rfl,dQ _,by simpa [Hid] using H.out,uQ _ _⟩
 case round =>
  obtain⟨i,rfl,hi,p,j⟩:=hrel;have Z:=j.size;by_cases M:i<g.length
  ·obtain⟨b,o,nm,d,z,rfl,hb,C,c1,c2,c3,hn⟩:=T.out.get hB j M
   have m:Hid (zD l (g.drop i)=if (fnd l nm).isSome then (if fY d then zD l (g.drop (i+1)) else 1) else 7):=a0Z C;obtain⟨D,k⟩:∃ D,eF l nm=D:=⟨_,rfl⟩;have Q:=iL B _ l nm (wr.alloc (.cells #[.string nm,int i64 d,int i64 z] 241)) (by simp;omega) ((S.out.at hB j).at (by omega) (ba _ _)) D k;clear C;go_wp2_with fail;refine Q.mono ?_;rintro e R ⟨rfl,A⟩;clear Q;have e1:Cl R wr.heap.size 1 (int i64 d):=(Cl.new (w:=wr) #[.string nm,int i64 d,int i64 z] 241 1 _ rfl rfl).at A;have t1:=e1.c;have h:xQ w R:=bt (bal j _) A;by_cases E:D<0
   ·obtain rfl:7=er:=by rw[<-p.out,m.out,zQ];rw[<-k] at E;rw[b0Z.1 E];decide
    clear k;go_wp2;go_ret;exact⟨rfl,h⟩
   ·have F:Hid ((fnd l nm).isSome=true):=by
     rw[<-k] at E;cases hh:(fnd l nm).isSome with
     | true=>rfl
     | false=>exact absurd (b0Z.2 hh) E
    clear k;by_cases V:d<1
    ·obtain rfl:1=er:=by rw[<-p.out,m.out,jQ F.out,zQ];simp[fY];omega
     go_wp2;go_ret;exact⟨rfl,h⟩
    ·by_cases X:6<d
     ·obtain rfl:1=er:=by rw[<-p.out,m.out,jQ F.out,zQ];simp[fY];omega
      go_wp2;go_ret;exact⟨rfl,h⟩
     ·have G:Hid (zD l (g.drop (i+1))=er):=by have:=p.out;rwa [m.out,jQ F.out,jQ (by simp[fY];omega)] at this
      go_wp2
      go_roundw
      case rel=>exact⟨i+1,by go_num,M,G,h⟩
      case measure=>simp[intOf];omega
  ·obtain rfl:0=er:=by have:=p.out;rw[nG (by omega)] at this;exact this
   go_wp2;go_ret;exact⟨rfl,j⟩
def ab (n:Int):Int:=if n<0 then -n else n
theorem aiZ (n:Int)(a:-9223372036854775807<=n/\n<=9223372036854775807)(w:World):Calls prog 190 #[int i64 n] w fun e w'=>e=.returned (int i64 (ab n))/\w' = w:=by
 obtain⟨g,i⟩:=a;go_enter func190,ntmps190;by_cases h:n<0
 ·rw[ab,jQ h]
  go_wp2;go_ret;exact⟨rfl,rfl⟩
 ·rw[ab,zQ h]
  go_wp2;go_ret;exact⟨rfl,rfl⟩
theorem aiJ (a b:Int)(w:World):Calls prog 189 #[int i64 a,int i64 b] w fun e w'=>e=.returned (int i64 (mx a b))/\w' = w:=by
 go_enter func189,ntmps189;by_cases h:b<a
 ·rw[show mx a b=a by unfold mx;split <;> omega]
  go_wp2;go_ret;exact⟨rfl,rfl⟩
 ·rw[show mx a b=b by unfold mx;split <;> omega]
  go_wp2;go_ret;exact⟨rfl,rfl⟩
theorem ajQ {lo hi:Int}(h:wZ lo hi=true):mx (ab lo) (ab hi)=spn lo hi:=by
 simp only[wZ,dJ] at h;unfold mx ab spn
 repeat' split
 all_goals omega
theorem ewX {lo:Int}:ab lo=spn lo lo:=by
 unfold ab spn
 repeat' split
 all_goals omega
theorem vL (lo hi:Int)(w:World)(r:Bool)(g:wZ lo hi=r):Calls prog 188 #[int i64 lo,int i64 hi] w fun e w'=>e=.returned (.bool r)/\w' = w:=by
 go_enter func188,ntmps188;by_cases a:-1048576<=lo
 ·by_cases h:lo<=hi
  ·by_cases i:hi<=1048576
   ·obtain rfl:true=r:=by rw[<-g];simp[wZ,a,h,i]
    go_wp2;go_ret;exact⟨rfl,rfl⟩
   ·obtain rfl:false=r:=by rw[<-g];simp[wZ,a,h,i]
    have j:decide (hi<=1048576)=false:=lZ i;go_wp2;go_ret;exact⟨by first|rfl|exact qH j,rfl⟩
  ·obtain rfl:false=r:=by rw[<-g];simp[wZ,a,h]
   go_wp2;go_ret;exact⟨rfl,rfl⟩
 ·obtain rfl:false=r:=by rw[<-g];simp[wZ,a]
  go_wp2;go_ret;exact⟨rfl,rfl⟩
theorem uI (k:Int)(w:World)(n:Int)(a:tQ k=n):Calls prog 165 #[int i64 k] w fun e w'=>e=.returned (int i64 n)/\w' = w:=by
 go_enter func165,ntmps165;by_cases p:1<=k
 ·by_cases v:k<=3
  ·obtain rfl:0=n:=by rw[<-a,tQ,jQ (by omega)]
   go_wp2;go_ret;exact⟨rfl,rfl⟩
  by_cases g:k=4
  ·subst g;subst a;go_wp2;go_ret;exact⟨rfl,rfl⟩
  by_cases h:k=5
  ·subst h;subst a;go_wp2;go_ret;exact⟨rfl,rfl⟩
  by_cases i:k=7
  ·subst i;subst a;go_wp2;go_ret;exact⟨rfl,rfl⟩
  have j:(k == 4)=false:=by simpa using g
  have l:(k == 5)=false:=by simpa using h
  have m:(k == 7)=false:=by simpa using i
  have o:4<=k:=by omega
  by_cases y:k<=10
  ·obtain rfl:1=n:=by rw[<-a,tQ,zQ (by omega),jQ (by omega)]
   go_wp2;go_ret;exact⟨rfl,rfl⟩
  ·obtain rfl:-1=n:=by rw[<-a,tQ,zQ (by omega),zQ (by omega),zQ (by omega)]
   go_wp2;go_ret;exact⟨rfl,rfl⟩
 ·obtain rfl:-1=n:=by rw[<-a,tQ,zQ (by omega),zQ (by omega),zQ (by omega)]
  have j:(k == 4)=false:=by rw[yU];omega
  have l:(k == 5)=false:=by rw[yU];omega
  have m:(k == 7)=false:=by rw[yU];omega
  have o:¬ 4<=k:=by omega
  go_wp2;go_ret;exact⟨rfl,rfl⟩
theorem bcell (a:xQ W w1):(∀ b o,b<W.heap.size->w1.cell? ⟨b,o,none⟩=W.cell? ⟨b,o,none⟩)/\(∀ b o,b<W.heap.size->w1.frozen? ⟨b,o,none⟩=W.frozen? ⟨b,o,none⟩) :=
 ⟨fun b o h=>a.cell (p:=⟨b,o,none⟩) h,fun b o h=>a.frozen (p:=⟨b,o,none⟩) h⟩
