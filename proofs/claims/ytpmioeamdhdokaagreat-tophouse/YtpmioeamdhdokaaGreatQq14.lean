import Derived.Test.YtpmioeamdhdokaaGreatQq13
import Derived.Maps.Own
import Derived.Maps.OwnOps
import Derived.Maps.OwnSet
import Derived.Maps.Views
open Go.Proofs.Tryz
set_option linter.unusedSimpArgs false
set_option maxHeartbeats 16000000
set_option maxRecDepth 100000
namespace Go.Proofs.YtpmioeamdhdokaaGreat
variable {d e er h l p u:Int} {R a b g i lo' n:Nat} {v:Value} {w w':World} {row:Option Nat} {ns:List Int}
section
open Go.RowKit Ds
def cU (x m:Int):Int:=x ^ m.toNat
theorem cyX (x m:Int)(h0:0<=m)(hn:m<=4096)(hx:1<=x)(h:cU x m<=1073741824)(w:World) :
  Calls prog 226 #[.int .i64 x,.int .i64 m] w fun e w'=>e=.returned (.int .i64 (cU x m))/\w' = w:=by
 obtain⟨n,rfl⟩:=cA h0;exact cxZ x n (by omega) hx h w
theorem o7 {lo:Int}(h:i<=R):(mG u d lo R a).take (i+1)=(mG u d lo R a).take i++[([lo+(i:Int)],hwt u d R a i)]:=by
 rw[gZ];congr 1;have h1:i<R+1:=by omega
 simp[mG,h1]
theorem cyZ {lo:Int}(h:R+1<=i):(mG u d lo R a).take i=mG u d lo R a:=pJ (by simp[mG];omega)
theorem ayZ (W:World)(z:Int)(nb:Nat)(hn:nb≠W.heap.size):jQ (W.alloc (.cells #[.int .i64 z] 3)) (W.heap.size+1) nb (.slice (some ⟨W.heap.size,0,none⟩) 1 1) [z]:=by
 refine⟨_,1,rfl,vQ _,by simp,fun _=>⟨W.heap.size,0,rfl,by omega,fun e=>hn e.symm,fun i x hi=>?_⟩⟩
 match i,hi with
 | 0,hi=>simp at hi;subst hi;simp[go_sem]
theorem cyJ (h:∀ g,v.ownBlock=some g->g<n)(hn:0<n):∃ k,k<n/\∀ g,v.ownBlock=some g->k=g:=by
 cases e:v.ownBlock with
 | none=>exact⟨0,hn,fun g e=>by cases e⟩
 | some g=>exact⟨g,h g e,fun g' e=>by simpa using e⟩
theorem czQ (u d lo:Int)(R a:Nat)(hR1:1<=R)(hR:R<=64)(ha:a<=R)(hd:1<=d)(hdu:d<=u)(hu:u<=1073741824)(hm:(u+d)*u ^ R<=1073741824)(hlo:-1073741824<=lo)(hhi:lo+(R:Int)<=1073741824)(l:List Pt)(er:Int)(hr:yY (mG u d lo R a)=(l,er))(w:World) :
  Calls prog 171 #[rv u d,.int .i64 lo,.int .i64 (lo+(R:Int)),.int .i64 (lo+(a:Int))] w fun e w'=>∃ v' us,e=.returned (.tuple #[v',.int .i64 er])/\rd us=l/\oX w' w.heap.size v' us/\Below w.heap.size w w'/\sQ w.heap.size us:=by
 have HM:Hid ((u+d)*u ^ R<=1073741824):=hm;have HR:Hid (yY (mG u d lo R a)=(l,er)):=hr;obtain⟨i0,hi0,hz0,hz1,hz2⟩:=rJ fM;clear hm hr;obtain⟨w0,hw0⟩:∃ w0,w.alloc (.cells #[.int .i64 u,.int .i64 d] 37)=w0:=⟨_,rfl⟩;have hb0:Below w.heap.size w w0:=hw0▸ba w _;have hs0:w.heap.size<w0.heap.size:=by rw[<-hw0];simp
 have p1:w0.cell? ⟨w.heap.size,0,none⟩=some (.int .i64 u):=by rw[<-hw0];simp[go_sem]
 have p2:w0.cell? ⟨w.heap.size,1,none⟩=some (.int .i64 d):=by rw[<-hw0];simp[go_sem]
 go_enter func171,ntmps171;go_wp2_with fail;clear hw0
 go_loopw [10,11] (fun pv zv wr=>∃ (i:Nat) (ds:List Tr),zv=.int .i64 (lo+(i:Int))/\i<=R+1/\Hid (rd ds=(mG u d lo R a).take i/\ds.length=i)/\Hid (zX wr w0.heap.size pv ds)/\Below w0.heap.size w0 wr) (fun _ zv _=>((lo+(R:Int)+1) - intOf zv).toNat)
 case atStart=>exact⟨0,[],by simp,kQ _,⟨by simp[rd],rfl⟩,zX.nil _ _,aQ _ _⟩
 case round =>
  obtain⟨i,ds,rfl,hit,HD,HW,hbl⟩:=hrel;have hbs:=hbl.size;have hpl:=HW.out.lt;obtain⟨pa,pc,rfl⟩:=HW.out.slice;have HDL:Hid (ds.length<=65):=by have:=HD.out.2;show ds.length<=65;omega
  by_cases h1:i<=R
  ·obtain⟨M,hM⟩:∃ M,max (lo+(i:Int) - (lo+(a:Int))) (lo+(a:Int) - (lo+(i:Int)))=M:=⟨_,rfl⟩
   have hM0:0<=M:=by omega
   have hMR:M<=(R:Int):=by omega
   have HG:Hid (gk u d R (i - a+(a - i))=cU d M*cU u (lo+(R:Int) - lo - M)):=by
    show _=_
    unfold gk cU;rw[show M.toNat=i - a+(a - i) by omega,show(lo+(R:Int) - lo - M).toNat=R - (i - a+(a - i)) by omega]
   have hP1:1<=cU d M:=fL hd _;have hS1:1<=cU u (lo+(R:Int) - lo - M):=fL (by omega) _
   have hPS1:cU d M*cU u (lo+(R:Int) - lo - M)<=1073741824:=by
    have b1:=cvJ hd hdu (R:=R) (k:=0) (s:=i - a+(a - i)) (by omega);rw[xZ,HG.out,cuJ] at b1;have b2:=fL (show 1<=u by omega) R;have b3:=xK (show 1<=u+d by omega) (show 0<=u ^ R by omega);have:=HM.out;omega
   have hPS0:0<=cU d M*cU u (lo+(R:Int) - lo - M):=eA (by omega) (by omega)
   have hPb:cU d M<=1073741824:=by
    have:=bE hS1 (show 0<=cU d M by omega);omega
   have hSb:cU u (lo+(R:Int) - lo - M)<=1073741824:=by
    have:=xK hP1 (show 0<=cU u (lo+(R:Int) - lo - M) by omega);omega
   have c1:wr.cell? ⟨w.heap.size,0,none⟩=some (.int .i64 u):=(hbl.cell (p:=⟨w.heap.size,0,none⟩) (by show w.heap.size<_;omega)).trans p1;have c2:wr.cell? ⟨w.heap.size,1,none⟩=some (.int .i64 d):=(hbl.cell (p:=⟨w.heap.size,1,none⟩) (by show w.heap.size<_;omega)).trans p2;clear HM HR;have wE:IntKind.i64.wrap (lo+(R:Int) - lo)=lo+(R:Int) - lo:=by rw[aU];omega
   have wF:IntKind.i64.wrap (lo+(R:Int) - lo - M)=lo+(R:Int) - lo - M:=by rw[aU];omega
   have wP:IntKind.i64.wrap (cU d M*cU u (lo+(R:Int) - lo - M))=cU d M*cU u (lo+(R:Int) - lo - M):=by rw[aU];omega
   go_wp2_with fail;clear hM
   go_region_held3 (fun w'=>w'.cell? ⟨w.heap.size,0,none⟩=some (.int .i64 u)/\w'.cell? ⟨w.heap.size,1,none⟩=some (.int .i64 d))
    ((go_split_ands;refine⟨?_,?_⟩ <;> first|assumption|(simp[go_sem, *];done)))
    ((go_at_call 226;refine(cyX _ _ ?_ ?_ ?_ ?_ _).mono ?_;(omega);(omega);(omega);(assumption);rintro x1 w1 ⟨rfl,rfl⟩))
   obtain⟨X,hX⟩:∃ X,cU d M*cU u (lo+(R:Int) - lo - M)=X:=⟨_,rfl⟩;obtain⟨W,hW⟩:∃ W,wr.drew=W:=⟨_,rfl⟩;have HBr:Hid (Below wr.heap.size wr W):=hW▸(aQ _ _).drew;have hWs:wr.heap.size<=W.heap.size:=HBr.out.size;rw[hX] at HG hPS1 hPS0 ⊢;rw[hW];have HBd:Hid (Below w0.heap.size w0 W):=bt hbl HBr.out;have HWd:Hid (zX W w0.heap.size (.slice pa ds.length pc) ds):=HW.out.keep HBr.out;have d1:W.cell? ⟨w.heap.size,0,none⟩=some (.int .i64 u):=(HBr.out.cell (p:=⟨w.heap.size,0,none⟩) (by show w.heap.size<_;omega)).trans c1;have d2:W.cell? ⟨w.heap.size,1,none⟩=some (.int .i64 d):=(HBr.out.cell (p:=⟨w.heap.size,1,none⟩) (by show w.heap.size<_;omega)).trans c2;obtain⟨mo,hmo,hmg⟩:=cyJ (n:=W.heap.size) (fun g e=>by have:=(hpl g e).2;omega) (by omega);have HMG:Hid (∀ g,(Value.slice pa ds.length pc).ownBlock=some g->mo=g):=hmg
   have HI:Hid (jQ (W.alloc (.cells #[.int .i64 (lo+(i:Int))] 3)) (W.alloc (.cells #[.int .i64 (lo+(i:Int))] 3)).heap.size mo (.slice (some ⟨W.heap.size,0,none⟩) 1 1) [lo+(i:Int)]):=by
    have:=ayZ W (lo+(i:Int)) mo (by omega);rw[Hid,show(W.alloc (.cells #[.int .i64 (lo+(i:Int))] 3)).heap.size=W.heap.size+1 by simp];exact this
   have b1:0<=X*u:=eA hPS0 (by omega);have b2:X*u<=1073741824*1073741824:=nN hPS1 hu (by omega) (by omega);have b3:0<=X*(u - d):=eA hPS0 (by omega);have b4:X*(u - d)<=1073741824*1073741824:=nN hPS1 (by omega) (by omega) (by omega);clear hX hW HW wE wF wP hP1 hS1 hPb hSb hpl hmg c1 c2 hM0 hMR;by_cases e1:i=0
   ·have y1:(lo+(i:Int) == lo)=true:=by simp;omega
    have E1:Hid (i=0):=e1;clear e1;have HO:Hid (zX ((W.alloc (.cells #[.int .i64 (lo+(i:Int))] 3)).alloc (.cells #[.slice (some ⟨W.heap.size,0,none⟩) 1 1,.int .i64 (X*u)] 82)) w0.heap.size (.slice pa ds.length pc) ds):=HWd.out.keep (bal (ba _ _) _);go_wp2_with (at_builtin;refine jE _ rfl _ _ 65 rfl w0.heap.size 82 i0 (.agg #[.slice none 0 0,.int .i64 0]) 2 32 underlying65 hi0 hz0 hz1 hz2 rfl (by decide) _ _ _ rfl HO.out.1 ⟨W.heap.size+1,0,none⟩ 1 1 [.slice (some ⟨W.heap.size,0,none⟩) 1 1,.int .i64 (X*u)] rfl ?q1 ?q2 ?q3 ?q4 ?q5 ?q6 ?_)
    case q1=>rfl
    case q2 =>
     intro j u hj
     match j,hj with
     | 0,hj=>simp at hj;subst hj;simp[go_sem,Addr.add]
     | 1,hj=>simp at hj;subst hj;simp[go_sem,Addr.add]
    case q3=>intro u hu;simp at hu;rcases hu with rfl|rfl <;> rfl
    case q4=>have:=HDL.out;simp[maxLen];omega
    case q5=>have:=HDL.out;omega
    case q6=>simp;omega
    intro v3 w3 hown3 hgrow hnil hat;have HW3:Hid (zX w3 w0.heap.size v3 (ds++[(.slice (some ⟨W.heap.size,0,none⟩) 1 1,[lo+(i:Int)],X*u)])):=HO.out.app hown3 hgrow (by simpa using hat) (HI.out.at2 (ba _ _)) HMG.out;have hb3:Below w0.heap.size w0 w3:=(bal (bal HBd.out _) _).grown hgrow (by simp;omega) (zO HO.out.1);obtain⟨a3,c3,rfl⟩:=HW3.out.slice
    have HD3:Hid (rd (ds++[((.slice (some ⟨W.heap.size,0,none⟩) 1 1,[lo+(i:Int)],X*u):Tr)])=(mG u d lo R a).take (i+1)/\(ds++[((.slice (some ⟨W.heap.size,0,none⟩) 1 1,[lo+(i:Int)],X*u):Tr)]).length=i+1):=by
     refine⟨?_,by simp[HD.out.2]⟩;rw[o7 h1,<-HD.out.1];simp only[rd,vY,fV,dP];rw[hwt,HG.out,zQ (.inl E1.out)]
    clear hown3 hgrow hnil hat HO;go_wp2
    go_roundw
    case rel=>exact⟨i+1,_,by go_num,by omega,HD3,HW3,hb3⟩
    case measure=>simp[intOf];omega
   ·by_cases e2:i=R
    ·have y1:(lo+(i:Int) == lo)=false:=by simp;omega
     have y2:(lo+(i:Int) == lo+(R:Int))=true:=by simp;omega
     have E2:Hid (i=R):=e2;clear e2;have HO:Hid (zX ((W.alloc (.cells #[.int .i64 (lo+(i:Int))] 3)).alloc (.cells #[.slice (some ⟨W.heap.size,0,none⟩) 1 1,.int .i64 (X*u)] 82)) w0.heap.size (.slice pa ds.length pc) ds):=HWd.out.keep (bal (ba _ _) _);go_wp2_with (at_builtin;refine jE _ rfl _ _ 65 rfl w0.heap.size 82 i0 (.agg #[.slice none 0 0,.int .i64 0]) 2 32 underlying65 hi0 hz0 hz1 hz2 rfl (by decide) _ _ _ rfl HO.out.1 ⟨W.heap.size+1,0,none⟩ 1 1 [.slice (some ⟨W.heap.size,0,none⟩) 1 1,.int .i64 (X*u)] rfl ?q1 ?q2 ?q3 ?q4 ?q5 ?q6 ?_)
     case q1=>rfl
     case q2 =>
      intro j u hj
      match j,hj with
      | 0,hj=>simp at hj;subst hj;simp[go_sem,Addr.add]
      | 1,hj=>simp at hj;subst hj;simp[go_sem,Addr.add]
     case q3=>intro u hu;simp at hu;rcases hu with rfl|rfl <;> rfl
     case q4=>have:=HDL.out;simp[maxLen];omega
     case q5=>have:=HDL.out;omega
     case q6=>simp;omega
     intro v3 w3 hown3 hgrow hnil hat;have HW3:Hid (zX w3 w0.heap.size v3 (ds++[(.slice (some ⟨W.heap.size,0,none⟩) 1 1,[lo+(i:Int)],X*u)])):=HO.out.app hown3 hgrow (by simpa using hat) (HI.out.at2 (ba _ _)) HMG.out;have hb3:Below w0.heap.size w0 w3:=(bal (bal HBd.out _) _).grown hgrow (by simp;omega) (zO HO.out.1);obtain⟨a3,c3,rfl⟩:=HW3.out.slice
     have HD3:Hid (rd (ds++[((.slice (some ⟨W.heap.size,0,none⟩) 1 1,[lo+(i:Int)],X*u):Tr)])=(mG u d lo R a).take (i+1)/\(ds++[((.slice (some ⟨W.heap.size,0,none⟩) 1 1,[lo+(i:Int)],X*u):Tr)]).length=i+1):=by
      refine⟨?_,by simp[HD.out.2]⟩;rw[o7 h1,<-HD.out.1];simp only[rd,vY,fV,dP];rw[hwt,HG.out,zQ (.inr E2.out)]
     clear hown3 hgrow hnil hat HO;go_wp2
     go_roundw
     case rel=>exact⟨i+1,_,by go_num,by omega,HD3,HW3,hb3⟩
     case measure=>simp[intOf];omega
    ·have y1:(lo+(i:Int) == lo)=false:=by simp;omega
     have y2:(lo+(i:Int) == lo+(R:Int))=false:=by simp;omega
     have HO:Hid (zX ((W.alloc (.cells #[.int .i64 (lo+(i:Int))] 3)).alloc (.cells #[.slice (some ⟨W.heap.size,0,none⟩) 1 1,.int .i64 (X*(u - d))] 82)) w0.heap.size (.slice pa ds.length pc) ds):=HWd.out.keep (bal (ba _ _) _);go_wp2_with (at_builtin;refine jE _ rfl _ _ 65 rfl w0.heap.size 82 i0 (.agg #[.slice none 0 0,.int .i64 0]) 2 32 underlying65 hi0 hz0 hz1 hz2 rfl (by decide) _ _ _ rfl HO.out.1 ⟨W.heap.size+1,0,none⟩ 1 1 [.slice (some ⟨W.heap.size,0,none⟩) 1 1,.int .i64 (X*(u - d))] rfl ?q1 ?q2 ?q3 ?q4 ?q5 ?q6 ?_)
     case q1=>rfl
     case q2 =>
      intro j u hj
      match j,hj with
      | 0,hj=>simp at hj;subst hj;simp[go_sem,Addr.add]
      | 1,hj=>simp at hj;subst hj;simp[go_sem,Addr.add]
     case q3=>intro u hu;simp at hu;rcases hu with rfl|rfl <;> rfl
     case q4=>have:=HDL.out;simp[maxLen];omega
     case q5=>have:=HDL.out;omega
     case q6=>simp;omega
     intro v3 w3 hown3 hgrow hnil hat;have HW3:Hid (zX w3 w0.heap.size v3 (ds++[(.slice (some ⟨W.heap.size,0,none⟩) 1 1,[lo+(i:Int)],X*(u - d))])):=HO.out.app hown3 hgrow (by simpa using hat) (HI.out.at2 (ba _ _)) HMG.out;have hb3:Below w0.heap.size w0 w3:=(bal (bal HBd.out _) _).grown hgrow (by simp;omega) (zO HO.out.1);obtain⟨a3,c3,rfl⟩:=HW3.out.slice
     have HD3:Hid (rd (ds++[((.slice (some ⟨W.heap.size,0,none⟩) 1 1,[lo+(i:Int)],X*(u - d)):Tr)])=(mG u d lo R a).take (i+1)/\(ds++[((.slice (some ⟨W.heap.size,0,none⟩) 1 1,[lo+(i:Int)],X*(u - d)):Tr)]).length=i+1):=by
      refine⟨?_,by simp[HD.out.2]⟩;rw[o7 h1,<-HD.out.1];simp only[rd,vY,fV,dP];rw[hwt,HG.out,xQ (by omega)]
     clear hown3 hgrow hnil hat HO;go_wp2
     go_roundw
     case rel=>exact⟨i+1,_,by go_num,by omega,HD3,HW3,hb3⟩
     case measure=>simp[intOf];omega
  ·have HF:Hid (rd ds=mG u d lo R a):=by rw[Hid,HD.out.1,cyZ (by omega)]
   have HP2:Hid (fQ wr wr.heap.size (.slice pa ds.length pc) ds):=HW.out.parts (by have:=HDL.out;omega);have kc:=mW wr.heap.size (.slice pa ds.length pc) ds wr (vQ _) HP2.out l er (by rw[HF.out];exact HR.out);clear HW HD hpl HF HM HR;go_wp2_with fail;refine kc.mono ?_;rintro e w5 ⟨v5,xs,rfl,k1,k2,k3,k4⟩;obtain⟨b5,d5,rfl⟩:=k2.slice;clear kc;have K4:Hid (sQ w.heap.size xs):=k4.mono (by omega);have K2:Hid (oX w5 w.heap.size (.slice b5 xs.length d5) xs):=k2.mono (by omega);have K3:Hid (Below w.heap.size w w5):=hb0.trans ((bt hbl k3).mono hb0.size);have K1:Hid (rd xs=l):=k1;clear k1 k2 k3 k4;go_wp2;exact uQ (v:=.tuple #[.slice b5 xs.length d5,.int .i64 er]) (by simp[results,results171,go_sem]) rfl ⟨_,xs,rfl,K1.out,K2.out,K3.out,K4.out⟩
theorem czX (B nb:Nat)(v:Value)(xs:List Int)(w:World)(hB:B<=w.heap.size)(hp:jQ w B nb v xs)(l:List Pt)(er:Int)(hr:yY [(xs,1)]=(l,er)) :
  Calls prog 169 #[v] w fun e w'=>∃ v' us,e=.returned (.tuple #[v',.int .i64 er])/\rd us=l/\oX w' w.heap.size v' us/\Below w.heap.size w w'/\sQ w.heap.size us:=by
 have kc:=mW (w.heap.size+1) _ _ _ (by simp) (jR w B nb v xs 1 hB hp) l er hr;obtain⟨a,c,rfl,hc,hl,_⟩:=hp;clear hr;go_enter func169,ntmps169;go_wp2_with fail;refine kc.mono ?_;rintro e w1 ⟨v1,us,rfl,hrd,ho,hb1,hfr⟩;have HO:Hid (oX w1 w.heap.size v1 us):=ho.mono (by simp);have HF:Hid (sQ w.heap.size us):=hfr.mono (by simp);have HD:Hid (rd us=l):=hrd;obtain⟨a1,c1,rfl⟩:=ho.slice;clear ho hrd kc hfr;go_wp2;exact uQ (v:=.tuple #[.slice a1 us.length c1,.int .i64 er]) (by simp[results,results169,go_sem]) rfl ⟨_,us,rfl,HD.out,HO.out,bt (ba _ _) hb1,HF.out⟩
def iH (w:World) (l:List Pt) (er:Int) (e:Ending) (w':World):Prop :=
 ∃ v' us,e=.returned (.tuple #[v',.int .i64 er])/\rd us=l/\oX w' w.heap.size v' us/\Below w.heap.size w w'/\sQ w.heap.size us
theorem iH.err (hb:Below w.heap.size w w'):iH w [] er (.returned (.tuple #[.slice none 0 0,.int .i64 er])) w' :=
 ⟨_,[],rfl,rfl,.inl ⟨rfl,rfl⟩,hb,sQ.nil _⟩
theorem czZ (u d lo hi n:Int)(l:List Pt)(er:Int)(hr:vV u d lo hi n=(l,er))(w:World) :
  Calls prog 96 #[rv u d,.int .i64 lo,.int .i64 hi,.int .i64 n] w (iH w l er):=by
 obtain⟨e0,he0⟩:∃ e0,fI u d=e0:=⟨_,rfl⟩;have kc:=ayX u d e0 he0;rw[vV,he0] at hr;by_cases c:e0=0
 ·subst c
  obtain⟨hrt,hdu,hd1,hu1⟩:=cuQ he0;rw[xQ (by simp)] at hr;by_cases cb:-1073741824<=lo/\lo<=hi/\hi<=1073741824/\hi - lo<=64
  ·obtain⟨b1,b2,b3,b4⟩:=cb
   rw[xQ (by simp;omega)] at hr;by_cases ce:lo=hi
   ·subst ce
    rw[zQ rfl] at hr;have ks:=fun W:World=>czX (W.heap.size+1) (W.heap.size+1) _ [lo] (W.alloc (.cells #[.int .i64 lo] 3)) (by simp) (ayZ W lo (W.heap.size+1) (by omega)) l er hr;clear he0 hrt hr;go_enter func96,ntmps96;go_wp2_with fail;refine(kc _).mono ?_;rintro e w1 ⟨rfl,hb1⟩;have G1:=bt (ba _ _) hb1;obtain⟨hc1,hf1⟩:=bcell hb1;go_wp2_with fail;refine(ks _).mono ?_;rintro e w2 ⟨v2,us,rfl,k1,k2,k3,k4⟩;obtain⟨a2,c2,rfl⟩:=k2.slice;have hz1:w.heap.size<=w1.heap.size+1:=by have:=G1.size;omega
    have HZ:Hid (iH w l er (.returned (.tuple #[.slice a2 us.length c2,.int .i64 er])) w2):=⟨_,us,rfl,k1,k2.mono (by simpa using hz1),bt G1 (bt (ba _ _) k3),k4.mono (by simpa using hz1)⟩;clear k1 k2 k3 k4 ks;go_wp2;exact uQ (v:=.tuple #[.slice a2 us.length c2,.int .i64 er]) (by simp[results,results96,go_sem]) rfl HZ.out
   ·rw[xQ ce] at hr
    obtain⟨R,hR⟩:∃ R:Nat,hi - lo=(R:Int):=⟨(hi - lo).toNat,by omega⟩;obtain rfl:hi=lo+(R:Int):=by omega
    obtain⟨A,hA⟩:∃ A:Nat,yG lo (lo+(R:Int)) n=lo+(A:Int):=⟨(yG lo (lo+(R:Int)) n - lo).toNat,by unfold yG;omega⟩
    have hA2:A<=R:=by
     have:yG lo (lo+(R:Int)) n<=lo+(R:Int):=by unfold yG;omega
     omega
    rw[hA,show(lo+(R:Int) - lo).toNat=R by omega,show(lo+(A:Int) - lo).toNat=A by omega] at hr;have hR1:1<=R:=by omega
    have HA:=qQ hA
    have ki:∀ W,Calls prog 95 #[.int .i64 n,.int .i64 lo,.int .i64 (lo+(R:Int))] W fun e w'=>e=.returned (.int .i64 (lo+(A:Int)))/\w' = W:=fun W=>by
     have:=bR n lo (lo+(R:Int)) W;rw[HA.out] at this;exact this
    have wE:lo+(R:Int) - lo=(R:Int):=by omega
    have km:∀ (m:Int) (W:World) (b:Bool),m=(R:Int)->decide (1073741824<(u+d)*u ^ R)=b->Calls prog 170 #[rv u d,.int .i64 m] W fun e w'=>e=.returned (.bool b)/\Below W.heap.size W w':=fun m W b hm hb=>by subst hm;exact cxJ u d R (by omega) hd1 hu1 hdu b hR1 hb W
    have ce':(lo == lo+(R:Int))=false:=by simp;omega
    by_cases cm:1073741824<(u+d)*u ^ R
    ·rw[zQ cm] at hr
     simp only[dQ] at hr;obtain⟨rfl,rfl⟩:=hr;have CM:=qQ (xG cm);clear cm he0 hrt hA hR wE;go_enter func96,ntmps96;go_wp2_with fail;refine(kc _).mono ?_;rintro e w1 ⟨rfl,hb1⟩;have G1:=bt (ba _ _) hb1;obtain⟨hc1,hf1⟩:=bcell hb1;go_wp2_with fail;refine(km _ _ true (by omega) CM.out).mono ?_;rintro e w2 ⟨rfl,hb2⟩;have G2:=bt G1 hb2;go_wp2;exact uQ (v:=.tuple #[.slice none 0 0,.int .i64 4]) (by simp[results,results96,go_sem]) rfl (iH.err G2)
    ·rw[xQ cm] at hr
     have CM:=qQ (oV cm);have kh:=czQ u d lo R A hR1 (by omega) hA2 hd1 hdu hu1 (by omega) b1 b3 l er hr;clear cm he0 hrt hA hR hr wE;go_enter func96,ntmps96;go_wp2_with fail;refine(kc _).mono ?_;rintro e w1 ⟨rfl,hb1⟩;have G1:=bt (ba _ _) hb1;obtain⟨hc1,hf1⟩:=bcell hb1;go_wp2_with fail;refine(km _ _ false (by omega) CM.out).mono ?_;rintro e w2 ⟨rfl,hb2⟩;have G2:=bt G1 hb2;obtain⟨hc2,hf2⟩:=bcell hb2;have hz1:w.heap.size<w1.heap.size:=by have:=hb1.size;simp at this;omega
     have d1:w2.cell? ⟨w.heap.size,0,none⟩=some (.int .i64 u):=by rw[hc2 _ _ hz1,hc1 _ _ (by simp)];simp[go_sem]
     have d2:w2.cell? ⟨w.heap.size,1,none⟩=some (.int .i64 d):=by rw[hc2 _ _ hz1,hc1 _ _ (by simp)];simp[go_sem]
     have lw:w.heap.size<w2.heap.size:=by have:=hb2.size;omega
     clear hc1 hf1 hc2 hf2;go_wp2_with fail
     go_region_held3 (fun w'=>w'.cell? ⟨w.heap.size,0,none⟩=some (.int .i64 u)/\w'.cell? ⟨w.heap.size,1,none⟩=some (.int .i64 d))
      ((go_split_ands;refine⟨?_,?_⟩ <;> first|assumption|(simp[go_sem, *];done)))
      (first
       | (go_at_call 95;refine(ki _).mono ?_;rintro x3 w3 ⟨rfl,rfl⟩)
       | (go_at_call 171;refine(kh _).mono ?_;rintro x4 w4 ⟨v4,us,rfl,k1,k2,k3,k4⟩;obtain⟨a2,c2,hv4⟩:=k2.slice;subst hv4;obtain⟨hc4,hf4⟩:=bcell k3;have q1:w4.cell? ⟨w.heap.size,0,none⟩=some (.int .i64 u):=(hc4 _ _ lw).trans d1;have q2:w4.cell? ⟨w.heap.size,1,none⟩=some (.int .i64 d):=(hc4 _ _ lw).trans d2;clear hc4 hf4))
     have HZ:Hid (iH w l er (.returned (.tuple #[.slice a2 us.length c2,.int .i64 er])) w4):=⟨_,us,rfl,k1,k2.mono G2.size,bt G2 (bt (aQ _ _).drew k3),k4.mono G2.size⟩;clear k1 k2 k3 k4 kh;go_wp2;exact uQ (v:=.tuple #[.slice a2 us.length c2,.int .i64 er]) (by simp[results,results96,go_sem]) rfl HZ.out
  ·rw[zQ cb] at hr
   simp only[dQ] at hr;obtain⟨rfl,rfl⟩:=hr;clear he0 hrt;by_cases b1:lo < -1073741824
   ·clear cb
    go_enter func96,ntmps96;go_wp2_with fail;refine(kc _).mono ?_;rintro e w1 ⟨rfl,hb1⟩;have G1:=bt (ba _ _) hb1;obtain⟨hc1,hf1⟩:=bcell hb1;go_wp2;exact uQ (v:=.tuple #[.slice none 0 0,.int .i64 3]) (by simp[results,results96,go_sem]) rfl (iH.err G1)
   ·by_cases b2:hi<lo
    ·clear cb
     go_enter func96,ntmps96;go_wp2_with fail;refine(kc _).mono ?_;rintro e w1 ⟨rfl,hb1⟩;have G1:=bt (ba _ _) hb1;obtain⟨hc1,hf1⟩:=bcell hb1;go_wp2;exact uQ (v:=.tuple #[.slice none 0 0,.int .i64 3]) (by simp[results,results96,go_sem]) rfl (iH.err G1)
    ·by_cases b3:1073741824<hi
     ·clear cb
      go_enter func96,ntmps96;go_wp2_with fail;refine(kc _).mono ?_;rintro e w1 ⟨rfl,hb1⟩;have G1:=bt (ba _ _) hb1;obtain⟨hc1,hf1⟩:=bcell hb1;go_wp2;exact uQ (v:=.tuple #[.slice none 0 0,.int .i64 3]) (by simp[results,results96,go_sem]) rfl (iH.err G1)
     ·have b4:64<hi - lo:=by omega
      clear cb;go_enter func96,ntmps96;go_wp2_with fail;refine(kc _).mono ?_;rintro e w1 ⟨rfl,hb1⟩;have G1:=bt (ba _ _) hb1;obtain⟨hc1,hf1⟩:=bcell hb1;go_wp2;exact uQ (v:=.tuple #[.slice none 0 0,.int .i64 3]) (by simp[results,results96,go_sem]) rfl (iH.err G1)
 ·rw[zQ c] at hr
  simp only[dQ] at hr;obtain⟨rfl,rfl⟩:=hr;have c1:(e0 == 0)=false:=by simpa using c
  have c2:(e0 != 0)=true:=by simpa using c
  clear he0;go_enter func96,ntmps96;go_wp2_with fail;refine(kc _).mono ?_;rintro e w1 ⟨rfl,hb1⟩;have G1:=bt (ba _ _) hb1;obtain⟨hc1,hf1⟩:=bcell hb1;go_wp2;exact uQ (v:=.tuple #[.slice none 0 0,.int .i64 e0]) (by simp[results,results96,go_sem]) rfl (iH.err G1)
def Fc (b:Nat) (n m:Int) (W:World):Prop :=
 W.cell? ⟨b,0,none⟩=some (.int .i64 n)/\W.cell? ⟨b,1,none⟩=some (.int .i64 m)/\W.frozen? ⟨b,0,none⟩=false/\W.frozen? ⟨b,1,none⟩=false
theorem czJ (w:World)(n m:Int):Fc w.heap.size n m (w.alloc (.cells #[.int .i64 n,.int .i64 m] 37)):=by
 refine⟨?_,?_,?_,?_⟩ <;> simp[go_sem]
theorem Row.setS {us:List Tr}(h:Row w b 0 us){t:Tr}(ht:us[i]? = some t)(s:Value) :
  Row (w.setCell ⟨b,i*2,none⟩ s) b 0 (us.set i (s,t.2.1,t.2.2)):=by
 have hi:=(cQ.1 ht).1;refine⟨fun j u hu=>?_,fun j hj=>by rw[qZ];exact h.thaw j (by simpa using hj),by simpa using h.lt⟩;by_cases hj:i=j
 ·subst hj
  rw[fG hi] at hu;obtain rfl:(s,t.2.1,t.2.2)=u:=by simpa using hu
  have c:=h.cells i t ht;rw[xZ] at c ⊢;exact⟨wZ c.1,by rw[gQ (by simp)];exact c.2⟩
 ·rw[xF hj] at hu
  have c:=h.cells j u hu;exact⟨by rw[gQ (by simp <;> omega)];exact c.1,by rw[gQ (by simp <;> omega)];exact c.2⟩
theorem c0Q {us:List Tr}{t:Tr}(ht:us[i]? = some t)(s:Value):rd (us.set i (s,t.2.1,t.2.2))=rd us:=by
 rw[kT];have:=pV ht;apply cP;intro j;rw[List.getElem?_set];by_cases hj:i=j
 ·subst hj
  rw[zQ rfl,this];split
  ·rfl
  ·rename_i hh;exact absurd (cQ.1 this).1 hh
 ·rw[xQ hj]
theorem c0X {lo:Nat}{us:List Tr}(h:sQ lo (us.take i))(hi:i<us.length){t:Tr}(ht:t.2.1≠[]->∀ b o sp n c,t.1=.slice (some ⟨b,o,sp⟩) n c->lo<=b):sQ lo ((us.set i t).take (i+1)):=by
 rw[gM _ hi];intro x hx;rcases gV.1 hx with h1|h1
 ·exact h x h1
 ·obtain rfl:x=t:=by simpa using h1
  exact ht
theorem ayJ (B:Nat)(v:Value)(ts:List Tr)(w:World)(hB:B<=w.heap.size)(hp:fQ w B v ts) :
  Calls prog 97 #[v] w fun e w'=>∃ v' us,e=.returned v'/\oX w' w.heap.size v' us/\rd us=rd ts/\Below w.heap.size w w'/\sQ w.heap.size us:=by
 have HP:Hid (fQ w B v ts):=hp;have kc:=avJ B v ts w hB hp;obtain⟨a,c,rfl,hc,hl,_⟩:=hp;go_enter func97,ntmps97;go_wp2_with fail;refine kc.mono ?_;rintro e w1 ⟨v1,rfl,hb1,hv1⟩;rcases hv1 with⟨hts,rfl⟩|⟨g,cap,rfl,hcap,hgb,hrow⟩
 ·subst hts
  clear kc;go_wp2
  go_loopw [10] (fun s wr=>s=.int .i64 0/\wr=w1) (fun _ _=>0)
  case atStart=>exact⟨rfl,rfl⟩
  case round =>
   obtain⟨rfl,rfl⟩:=hrel;go_wp2;go_ret;exact⟨_,[],rfl,.inl ⟨rfl,rfl⟩,rfl,hb1,sQ.nil _⟩
 ·have HR:Hid (Row w1 g 0 ts):=hrow
  have hgl:=hrow.lt;clear hrow kc;go_wp2
  go_loopw [10] (fun s wr=>∃ (i:Nat) (us:List Tr),s=.int .i64 (i:Int)/\i<=ts.length/\Hid (us.length=ts.length/\rd us=rd ts)/\Hid (Row wr g 0 us)/\Hid (∀ t∈us,jQ wr wr.heap.size g t.1 t.2.1)/\Hid (sQ w.heap.size (us.take i))/\Below w.heap.size w wr) (fun s _=>ts.length - (intOf s).toNat)
  case atStart =>
   refine⟨0,ts,rfl,kQ _,⟨rfl,rfl⟩,HR,fun t ht=>?_,by simp[Hid,sQ.nil],hb1⟩;exact((HP.out.elem hB (aQ _ _) ht).at hB hb1).mono (bQ hB hb1.size) (.inr (by omega))
  case round =>
   obtain⟨i,us,rfl,hit,HU,HRw,HI,HF,hbl⟩:=hrel;have hsz:=hbl.size;have hgw:=HRw.out.lt;by_cases h1:i<ts.length
   ·obtain⟨b,o,sa,sc,xs,k,rfl,hb,hs,c1,c2,hIx⟩:=HP.out.get hB hbl h1
    have HIx:Hid (jQ wr B B (.slice sa xs.length sc) xs):=hIx;obtain⟨⟨s0,x0,k0⟩,ht0⟩:=cX (l:=us) (i:=i) (by rw[HU.out.1];exact h1)
    have hxk:x0=xs/\k0=k:=by
     have e1:=pV ht0;have e2:=pV hs;rw[HU.out.2,e2] at e1;simp at e1;exact⟨e1.1.symm,e1.2.symm⟩
    obtain⟨rfl,rfl⟩:=hxk;have HT0:Hid (us[i]? = some (s0,x0,k0)):=ht0;obtain⟨r4,r5⟩:=HRw.out.cells i _ ht0;have r2:=HRw.out.thaw (i*2) (by rw[HU.out.1];omega);simp only[xZ] at r2 r4 r5;have kn:=fun W (h:Below wr.heap.size wr W)=>xR B B (.slice sa x0.length sc) x0 W (bQ hB (bQ hbl.size h.size)) (HIx.out.at (bQ hB hbl.size) h);clear hs hIx ht0;have q1:(wr.alloc (.cells #[.slice sa x0.length sc,.int .i64 k0] 82)).cell? ⟨g,i*2,none⟩=some s0:=by rw[yH _ _ _ hgw];exact r4
    have q2:(wr.alloc (.cells #[.slice sa x0.length sc,.int .i64 k0] 82)).frozen? ⟨g,i*2,none⟩=false:=by rw[(ba wr _).frozen hgw];exact r2
    go_wp2_with fail;refine(kn _ (ba _ _)).mono ?_;rintro e w2 ⟨v2,rfl,hI2,hb2⟩;have hs2:wr.heap.size<w2.heap.size:=by have:=hb2.size;simp at this;omega
    have hz2:0<(wr.alloc (.cells #[.slice sa x0.length sc,.int .i64 k0] 82)).heap.size:=by simp
    obtain⟨av,cv,hv2,_⟩:=hI2 0 hz2;subst hv2;have hgl2:g<(wr.alloc (.cells #[.slice sa x0.length sc,.int .i64 k0] 82)).heap.size:=by simp;omega
    have k1:w2.cell? ⟨g,i*2,none⟩=some s0:=((bcell hb2).1 _ _ hgl2).trans q1;have k2:w2.frozen? ⟨g,i*2,none⟩=false:=((bcell hb2).2 _ _ hgl2).trans q2;have HB2:Hid (Below wr.heap.size wr w2):=bt (ba _ _) hb2;have HR2:Hid (Row (w2.setCell ⟨g,i*2,none⟩ (.slice av x0.length cv)) g 0 (us.set i (.slice av x0.length cv,x0,k0))):=(HRw.out.keep HB2.out).setS HT0.out (.slice av x0.length cv)
    have HI3:Hid (∀ t∈us.set i (.slice av x0.length cv,x0,k0),jQ (w2.setCell ⟨g,i*2,none⟩ (.slice av x0.length cv)) (w2.setCell ⟨g,i*2,none⟩ (.slice av x0.length cv)).heap.size g t.1 t.2.1):=by
     intro t ht
     have h3:jQ w2 w2.heap.size g t.1 t.2.1:=by
      rcases uK ht with h|rfl
      ·exact(HI.out t h).at2 HB2.out
      ·exact hI2 g hgl2
     have h4:=h3.set (p:=⟨g,i*2,none⟩) rfl (.slice av x0.length cv);simpa using h4
    have HF2:Hid (sQ w.heap.size ((us.set i (.slice av x0.length cv,x0,k0)).take (i+1))):=c0X HF.out (by rw[HU.out.1];exact h1) (eT (w:=w2) (B:=w2.heap.size) fun m hm=>hI2 m (by simp;omega));have HU2:Hid ((us.set i (.slice av x0.length cv,x0,k0)).length=ts.length/\rd (us.set i (.slice av x0.length cv,x0,k0))=rd ts):=⟨by simp[HU.out.1],(c0Q HT0.out _).trans HU.out.2⟩;have HB3:Hid (Below w.heap.size w (w2.setCell ⟨g,i*2,none⟩ (.slice av x0.length cv))):=bs (bt hbl HB2.out) hgb _;clear hI2 hb2 q1 q2 kn HT0;go_wp2
    go_roundw
    case rel=>exact⟨i+1,_,by go_num,h1,HU2,HR2,HI3,HF2,HB3.out⟩
    case measure=>simp[intOf];omega
   ·have hii:ts.length<=i:=by omega
    have HZ:Hid (oX wr w.heap.size (.slice (some ⟨g,0,none⟩) ts.length cap) us/\rd us=rd ts/\sQ w.heap.size us):=by
     refine⟨.inr ⟨g,0,cap,by rw[HU.out.1],by rw[HU.out.1];exact hcap,by rw[HU.out.1];exact hl,hgb,HRw.out,HI.out⟩,HU.out.2,?_⟩;have:=HF.out;rwa [pJ (by rw[HU.out.1];exact hii)] at this
    go_wp2;go_ret;exact⟨_,us,rfl,HZ.out.1,HZ.out.2.1,hbl,HZ.out.2.2⟩
open Go.Maps (Keyed int_keyed keyOf_int_mk)
theorem oX.block {lo:Nat}{ts:List Tr}(h:oX w lo v ts):∀ g,v.ownBlock=some g->lo<=g/\g<w.heap.size:=by
 intro g e;rcases h with⟨rfl,_⟩|⟨b,o,c,rfl,_,_,hlo,hr,_⟩
 ·cases e
 ·simp only[Value.ownBlock,xX] at e
  subst e;exact⟨hlo,hr.lt⟩
theorem oX.beside {lo:Nat}{ts:List Tr}(h:oX w lo v ts)(hg:w.grownBy w' row)(h1:∀ g,v.ownBlock=some g->some g≠row)(h2:∀ t∈ts,t.2.1≠[]->∀ b o sp n c,t.1=.slice (some ⟨b,o,sp⟩) n c->some b≠row):oX w' lo v ts:=by
 rcases h with h|⟨b,o,c,rfl,hc,hl,hlo,hr,hi⟩
 ·exact .inl h
 ·have hk:w'.heap[b]? = w.heap[b]?:=hg.block b hr.lt (h1 b rfl)
  refine .inr ⟨b,o,c,rfl,hc,hl,hlo,⟨fun i t ht=>?_,fun j hj=>?_,uX hr.lt hg.size⟩,fun t ht=>?_⟩
  ·exact⟨(oZ (w:=w) (a:=⟨b,o+i*2,none⟩) hk).trans (hr.cells i t ht).1,(oZ (w:=w) (a:=⟨b,o+i*2+1,none⟩) hk).trans (hr.cells i t ht).2⟩
  ·exact(sJ (w:=w) (a:=⟨b,o+j,none⟩) hk).trans (hr.thaw j hj)
  ·have h3:=h2 t ht
   obtain⟨a,c',hv,hc',hl',hx⟩:=hi t ht;refine⟨a,c',hv,hc',hl',fun hne=>?_⟩;obtain⟨b',o',ha,hb',hn,hcell⟩:=hx hne;have h4:=h3 hne b' o' none t.2.1.length c' (by rw[hv,ha]);exact⟨b',o',ha,uX hb' hg.size,hn,fun i x hx=>hg.cell (hcell i x hx) h4⟩
def Dd (w:World) (lo:Nat) (v:Value) (us:List Tr):Prop:=oX w lo v us/\sQ lo us
theorem Dd.keep {lo:Nat}{us:List Tr}(h:Dd w lo v us)(hb:Below w.heap.size w w'):Dd w' lo v us:=⟨h.1.keep hb,h.2⟩
theorem Dd.mono {lo:Nat}{us:List Tr}(h:Dd w lo v us)(hl:lo'<=lo):Dd w lo' v us:=⟨h.1.mono hl,h.2.mono hl⟩
theorem Dd.beside {lo:Nat}{us:List Tr}(h:Dd w lo v us)(hg:w.grownBy w' (some g))(hl:g<lo):Dd w' lo v us :=
 ⟨h.1.beside hg (fun g' e=>by have:=(h.1.block g' e).1;simp;omega) (fun t ht hne b o sp n c e=>by have:=h.2 t ht hne b o sp n c e;simp;omega),h.2⟩
theorem Dd.nil (w:World)(lo:Nat):Dd w lo (.slice none 0 0) []:=⟨.inl ⟨rfl,rfl⟩,sQ.nil _⟩
theorem tX (h:Below w.heap.size w w'):w.grownBy w' none:=⟨h.os,h.tape,h.output,h.size,fun k hk _=>h.block k hk⟩
theorem yO (w:World)(g k:Nat)(u:Value):w.grownBy (w.setCell ⟨g,k,none⟩ u) (some g):=⟨rfl,rfl,rfl,by simp[World.setCell],fun i _ hr=>tL _ _ _ _ (by intro e;exact hr (by rw[e]))⟩
def hR:Value->Option (DataW Value × List MemPlace):=fun v=>some (.held v,[])
theorem gL:Keyed prog 3:=int_keyed underlying3
theorem c0Z (w:World):(zeroValue 66).run prog w=.ok (.slice none 0 0) w:=by kernel_rfl
structure Mpi (w:World) (b n lo:Nat) (D:DataW Value) (u d l h:Int):Prop where
 own:w.ownsMap prog 3 hR b n D
 el:∀ z:Int,∃ v,D.atKey (.int .i64 z) (.held (.slice none 0 0))=.held v/\(v=.slice none 0 0\/∃ us,Dd w lo v us/\us≠[]/\vV u d l h z=(rd us,0))
theorem Mpi.keep {lo:Nat}{D:DataW Value}(m:Mpi w b n lo D u d l h)(hb:Below w.heap.size w w'):Mpi w' b n lo D u d l h :=
 ⟨m.own.kept (tX hb) (by simp),fun z=>let ⟨v,h1,h2⟩:=m.el z;⟨v,h1,h2.imp id fun⟨us,a,b,c⟩=>⟨us,a.keep hb,b,c⟩⟩⟩
theorem Mpi.beside {lo:Nat}{D:DataW Value}(m:Mpi w b n lo D u d l h)(hg:w.grownBy w' (some g))(hne:b≠g)(hl:g<lo):Mpi w' b n lo D u d l h :=
 ⟨m.own.kept hg (by simpa using hne),fun z=>let ⟨v,h1,h2⟩:=m.el z;⟨v,h1,h2.imp id fun⟨us,a,b,c⟩=>⟨us,a.beside hg hl,b,c⟩⟩⟩
theorem Mpi.made (w:World)(lo:Nat)(u d l h:Int):Mpi (w.alloc (.map #[] 0)) w.heap.size 0 lo (.map []) u d l h :=
 ⟨World.ownsMap_made _ _ _ _,fun _=>⟨.slice none 0 0,rfl,.inl rfl⟩⟩
theorem Mpi.put {lo:Nat}{D:DataW Value}(m:Mpi w b n lo D u d l h)(hg:w.grownBy w' (some b))(hl:b<lo){us:List Tr}(hown:w'.ownsMap prog 3 hR b (n+1) (D.put (.int .i64 p) (.held v)))(hd:Dd w lo v us)(hne:us≠[])(hh:vV u d l h p=(rd us,0)) :
  Mpi w' b (n+1) lo (D.put (.int .i64 p) (.held v)) u d l h:=by
 refine⟨hown,fun z=>?_⟩;by_cases hz:z=p
 ·subst hz
  exact⟨v,Maps.atKey_put_same (k:=.int .i64 z) m.own.isMap True.intro _ _,.inr ⟨us,hd.beside hg hl,hne,hh⟩⟩
 ·obtain⟨v',h1,h2⟩:=m.el z
  exact⟨v',by rw[Maps.atKey_put_other (by simpa using hz)];exact h1,h2.imp id fun⟨us,a,b,c⟩=>⟨us,a.beside hg hl,b,c⟩⟩
theorem Mpi.look {lo:Nat}{D:DataW Value}(m:Mpi w b n lo D u d l h)(hp:(Lit.int .i64 p).wf=true)(hv:D.atKey (.int .i64 p) (.held (.slice none 0 0))=.held v) :
  (Instr.lookup 190 (.map (some b)) (.int .i64 p) false).run prog w=.ok v w:=by
 obtain⟨v',ps,hrun,hat⟩:=m.own.lookup gL underlying190 (c0Z w) (zd:=.held (.slice none 0 0)) (zp:=[]) rfl (keyOf_int_mk underlying3 hp);rw[hv] at hat;simp[hR] at hat;rw[hrun,hat.1]
abbrev Dz:=Value × List Tr
structure RowD (w:World) (g lo:Nat) (zs:List Dz):Prop where
 lt:g<w.heap.size
 cell:∀ j z,zs[j]? = some z->w.cell? ⟨g,j,none⟩=some z.1
 thaw:∀ j,j<zs.length->w.frozen? ⟨g,j,none⟩=false
 el:∀ z∈zs,Dd w lo z.1 z.2
def rds (zs:List Dz):List (List Pt):=zs.map fun z=>rd z.2
theorem RowD.keep {lo:Nat}{zs:List Dz}(h:RowD w g lo zs)(hb:Below w.heap.size w w'):RowD w' g lo zs :=
 ⟨uX h.lt hb.size,fun j z hj=>(hb.cell (p:=⟨g,j,none⟩) h.lt).trans (h.cell j z hj),fun j hj=>(hb.frozen (p:=⟨g,j,none⟩) h.lt).trans (h.thaw j hj),fun z hz=>(h.el z hz).keep hb⟩
theorem RowD.beside {lo r:Nat}{zs:List Dz}(h:RowD w g lo zs)(hg:w.grownBy w' (some r))(hne:g≠r)(hl:r<lo):RowD w' g lo zs:=by
 have hk:w'.heap[g]? = w.heap[g]?:=hg.block g h.lt (by simpa using hne);exact⟨uX h.lt hg.size,fun j z hj=>(oZ (w:=w) (a:=⟨g,j,none⟩) hk).trans (h.cell j z hj),fun j hj=>(sJ (w:=w) (a:=⟨g,j,none⟩) hk).trans (h.thaw j hj),fun z hz=>(h.el z hz).beside hg hl⟩
theorem RowD.set {lo:Nat}{zs:List Dz}(h:RowD w g lo zs)(hi:i<zs.length)(hl:g<lo){us:List Tr}(hd:Dd w lo v us):RowD (w.setCell ⟨g,i,none⟩ v) g lo (zs.set i (v,us)):=by
 refine⟨by simpa using h.lt,fun j z hj=>?_,fun j hj=>by rw[qZ];exact h.thaw j (by simpa using hj),fun z hz=>?_⟩
 ·by_cases hij:i=j
  ·subst hij
   rw[fG hi] at hj;obtain rfl:(v,us)=z:=by simpa using hj
   obtain⟨z0,hz0⟩:=cX hi;exact wZ (h.cell i z0 hz0)
  ·rw[xF hij] at hj
   rw[gQ (by simp)];exact h.cell j z hj
 ·rcases uK hz with h1|rfl
  ·exact(h.el z h1).beside (yO w g i v) hl
  ·exact hd.beside (yO w g i v) hl
theorem c0J (w:World)(n lo:Nat):RowD (w.alloc (.cells (madeCells #[.slice none 0 0] n) 66)) w.heap.size lo (List.replicate n (.slice none 0 0,[])):=by
 refine⟨by simp,fun j z hj=>?_,fun j _=>lE _ _ _ _ rfl,fun z hz=>?_⟩
 ·have hi:j<n:=by have:=(cQ.1 hj).1;simpa using this
  obtain rfl:z=(.slice none 0 0,[]):=by
   have:=(cQ.1 hj).2;simp at this;exact this.symm
  rw[iN _ _ _ _ rfl];simp[madeCells,hi,Nat.mod_one]
 ·rw[tS hz];exact Dd.nil _ _
def xY (u d lo hi:Int):List Int->List (List Pt) × Int
 | []=>([],0)
 | n::ns=>if (vV u d lo hi n).2≠0 then ([],(vV u d lo hi n).2) else if (xY u d lo hi ns).2≠0 then ([],(xY u d lo hi ns).2) else ((vV u d lo hi n).1::(xY u d lo hi ns).1,0)
theorem c1Q {lo hi:Int}(h:∀ n∈ns,(vV u d lo hi n).2=0):xY u d lo hi ns=(ns.map fun n=>(vV u d lo hi n).1,0):=by
 induction ns with
 | nil=>rfl
 | cons n ns ih =>
  have h1:=ih fun x hx=>h x (lP _ hx);have h2:=h n (mP ..);simp[xY,h1,h2]
theorem c1X {lo hi:Int}{n:Int}(h:∀ x∈ns.take i,(vV u d lo hi x).2=0)(hn:ns[i]? = some n)(he:(vV u d lo hi n).2=e)(he0:e≠0):xY u d lo hi ns=([],e):=by
 induction ns generalizing i with
 | nil=>simp at hn
 | cons m ns ih =>
  cases i with
  | zero =>
   simp at hn;subst hn;rw[xY,zQ (by rw[he];exact he0),he]
  | succ i =>
   have h2:=h m (by simp);have h1:=ih (i:=i) (fun x hx=>h x (by simp[hx])) (by simpa using hn);rw[xY,xQ (by simp[h2]),h1];simp[he0]
theorem j8 (u d lo hi n:Int):vV u d lo hi (yG lo hi n)=vV u d lo hi n:=by
 unfold vV;split
 ·rfl
 ·split
  ·rfl
  ·rename_i h
   have:yG lo hi (yG lo hi n)=yG lo hi n:=by unfold yG;omega
   rw[this]
theorem c1Z {lo hi n:Int}{l:List Pt}(h:vV u d lo hi n=(l,0)):l≠[]:=by
 have mk:∀ {L:List Pt},yY L=(l,0)->l≠[]:=by
  intro L hL;unfold yY at hL;split at hL
  ·unfold bU at hL
   split at hL
   ·simp at hL
   ·split at hL
    ·simp at hL
    ·rename_i h1 _
     simp at hL;rw[<-hL];simp[cut,h1]
  ·simp at hL
 unfold vV at h;split at h
 ·rename_i h1;simp at h;exact absurd h.2 h1
 ·split at h
  ·simp at h
  ·split at h
   ·exact mk h
   ·split at h
    ·simp at h
    ·exact mk h
def i8 (w:World) (h:Nat) (v:Value) (zs:List Dz):Prop :=
 (v=.slice none 0 0/\zs=[])\/∃ g cap lo,v=.slice (some ⟨g,0,none⟩) zs.length cap/\zs.length<=cap/\zs.length<=1048576/\RowD w g lo zs/\h<=g/\h<=lo
def l8 (w:World) (l:List (List Pt)) (er:Int) (e:Ending) (w':World):Prop :=
 ∃ v zs,e=.returned (.tuple #[v,.int .i64 er])/\rds zs=l/\i8 w' w.heap.size v zs/\Below w.heap.size w w'
end
end Go.Proofs.YtpmioeamdhdokaaGreat
