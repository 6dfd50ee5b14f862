import Derived.Test.YtpmioeamdhdokaaGreatQq07
import Derived.Laws.Bits
import Derived.Deep.RegionWith
open Go.Proofs.Tryz
set_option linter.unusedSimpArgs false
set_option maxHeartbeats 16000000
set_option maxRecDepth 100000
namespace Go.Proofs.YtpmioeamdhdokaaGreat
variable {W w w' wr:World} {B b base i m n size:Nat} {s s' v:Value} {e:TypeId} {xs:List Int} {row:Option Nat} {k:Int}
section
open Go.RowKit Ds
def clX (E:Nat) (v:Value) (l:List Pt) (T nd u pl b:Int) (w:World) (e:Ending) (w':World):Prop :=
 w.grownBy w' (some E) /\
  ((e=.returned (.tuple #[dK,.bool false])/\(rZ T pl l)[(2*nd+b).toNat]? = none/\Rob w' E v T (2*nd+b - (rZ T pl l).length) (u+1) (2*pl % T)) \/
   (∃ a c o,e=.returned (.tuple #[.agg #[.slice a (o:List Int).length c,.int .i64 (u+1)],.bool true])/\(∀ m,m<w.heap.size->jQ w' w'.heap.size m (.slice a o.length c) o)/\(rZ T pl l)[(2*nd+b).toNat]? = some o/\Rob w' E v T 0 0 1))
theorem clZ (N E:Nat)(a:Option Addr)(c:Nat)(ts:List Tr)(T nd u pl β b:Int)(w:World)(hR:Rob w E (.slice a ts.length c) T nd u pl)(hP:Rop w N E a c ts)(hN:N<=w.heap.size)(h2:2<=ts.length)(hT:1<=T/\T<=1073741824)(hp:0<=pl/\pl<T)(hk:∀ t∈ts,0<=t.2.2/\t.2.2<=1073741824)(hu:0<=u/\u<=4611686018427387904)(hnd:0<=nd/\nd<=4096)(hb:0<=b/\b<=1)(hβ:bits .and .i64 β 1=b) :
  Calls prog 191 #[.pointer (some ⟨E,0,none⟩),.int .i64 β] w (clX E (.slice a ts.length c) (rd ts) T nd u pl b w):=by
 have HR:=qQ hR;have HP:=qQ hP;have HK:=qQ hk;have hfw:=hP.few;obtain⟨c0,c1,c2,c3,c4,fz,lt⟩:=hR;have f2:=fz 2;have f3:=fz 3;clear hP hk fz;go_enter func191,ntmps191;go_wp2;generalize hX:((w.setCell ⟨E,3,none⟩ (.int .i64 (u+1))).setCell ⟨E,2,none⟩ (.int .i64 (2*nd+b))).alloc (.cells #[.slice none 0 0,.int .i64 0] 162)=X;have HRX:Hid (Rob X E (.slice a ts.length c) T (2*nd+b) (u+1) pl):=hX▸((HR.out.s3 (u+1)).s2 (2*nd+b)).alloc _;have HGX:Hid (w.grownBy X (some E)):=hX▸sA (iM (iM (vX w (some E)) 3 _) 2 _) _;have HVX:Hid (Rv X w.heap.size (.slice none 0 0) 0):=hX▸Rv.new _ _ _ _ _ (by simp);clear hX c0 c1 c2 c3 c4 f2 f3 HR hβ;obtain⟨m,hm⟩:=cA (show 0<=2*nd+b by omega);have hm4:m<=8193:=by omega
 rw[hm] at HRX ⊢;have HM:=qQ hm;clear hm
 go_loopw [43] (fun iv wr=>∃ (i:Nat),iv=.int .i64 (i:Int)/\i<=ts.length/\Hid ((rZ T pl (rd (ts.take i))).length<=m)/\Hid (Rob wr E (.slice a ts.length c) T ((m:Int) - (rZ T pl (rd (ts.take i))).length) (u+1) pl)/\Hid (w.grownBy wr (some E))/\Hid (Rv wr w.heap.size (.slice none 0 0) 0)) (fun iv _=>ts.length - (intOf iv).toNat)
 case atStart=>exact⟨0,rfl,kQ _,by simp[Hid,rd,rZ],by simpa [rd,rZ] using HRX,HGX,HVX⟩
 case round =>
  obtain⟨i,rfl,hit,HL,HR,HG,HV⟩:=hrel;obtain⟨q,hq⟩:∃ q,(rZ T pl (rd (ts.take i))).length=q:=⟨_,rfl⟩;have HQ:=qQ hq;rw[hq] at HL HR;clear hq;have hqm:q<=m:=HL.out;have hz:w.heap.size+1<=wr.heap.size:=HV.out.lt;by_cases h1:i<ts.length
  ·have HPr:Hid (Rop wr N E a c ts):=HP.out.gb HG.out
   obtain⟨bb,bo,sa,sc,xs,k,rfl,hbN,hbE,hs,d1,d2,hI⟩:=HPr.out.get h1;have HS:=qQ hs;have hkk:=HK.out _ (rQ hs);simp only at hkk;have HI:=qQ hI;clear hs hI;generalize hO:Obj.cells #[Value.slice sa xs.length sc,Value.int IntKind.i64 k] 82=O;have HRO:=qQ (HR.out.alloc O);have HVO:=qQ (HV.out.alloc O);have HSO:Hid (Rv (wr.alloc O) wr.heap.size (.slice sa xs.length sc) k):=hO▸Rv.new _ _ _ _ _ rfl;cases hlf:decide (T<=2*rm T pl k) with
   | false =>
    have kc:=avX E (.slice (some ⟨bb,bo,none⟩) ts.length c) (.slice sa xs.length sc) T ((m:Int) - q) (u+1) pl k (wr.alloc O) HRO.out ⟨_,_,_,rfl⟩ hT hp hkk false hlf;subst hO
    have HQ2:Hid ((rZ T pl (rd (ts.take (i+1)))).length=q):=by
     rw[Hid,tW HS.out,xQ (by simpa using hlf),yU];exact HQ.out
    clear hlf;go_wp2_with fail;refine kc.mono ?_;rintro e w2 ⟨rfl,hb2⟩;have HG2:Hid (w.grownBy w2 (some E)):=bY HG.out (dH (bt (ba _ _) hb2));have HR2:=qQ (HRO.out.at hb2);have HV2:=qQ (HVO.out.below hb2);clear kc;go_wp2
    go_roundw
    case rel=>exact⟨i+1,by go_num,h1,by rw[HQ2.out];exact hqm,by rw[HQ2.out];exact HR2,HG2,HV2⟩
    case measure=>simp[intOf];omega
   | true =>
    have kc:=avX E (.slice (some ⟨bb,bo,none⟩) ts.length c) (.slice sa xs.length sc) T ((m:Int) - q) (u+1) pl k (wr.alloc O) HRO.out ⟨_,_,_,rfl⟩ hT hp hkk true hlf;subst hO
    have HQ2:Hid ((rZ T pl (rd (ts.take (i+1)))).length=q+1):=by
     rw[Hid,tW HS.out,zQ (by simpa using hlf),bJ,HQ.out];rfl
    have HE:Hid ((rZ T pl (rd ts))[q]? = some xs):=by
     have:=clQ HS.out (by simpa using hlf:T<=2*rm T pl k);rw[HQ.out] at this;exact this
    clear hlf;go_wp2_with fail;refine kc.mono ?_;rintro e w2 ⟨rfl,hb2⟩;have HG2:Hid (w.grownBy w2 (some E)):=bY HG.out (dH (bt (ba _ _) hb2));have HR2:=qQ (HRO.out.at hb2);have HV2:=qQ (HVO.out.below hb2);have HS2:=qQ (HSO.out.below hb2);have hz2:wr.heap.size+1<=w2.heap.size:=by simpa using hb2.size
    have HI2:=qQ (HI.out.at (by omega) (bt (ba _ _) hb2));clear kc;obtain⟨e0,e1,e2,e3,e4,ez,e5⟩:=id HR2.out;by_cases h3:m=q
    ·subst h3
     have h4:(m:Int) - m=0:=by omega
     rw[h4] at e2;obtain⟨r0,r1,r2,r3,r4⟩:=id HV2.out;obtain⟨g0,g1,g2,g3,g4⟩:=id HS2.out;go_wp2;have eo3:∀ o,(w2.alloc o).cell? ⟨E,3,none⟩=some (.int .i64 (u+1)):=fun o=>(HR2.out.alloc o).c3;have go0:∀ o,(w2.alloc o).cell? ⟨wr.heap.size,0,none⟩=some (.slice sa xs.length sc):=fun o=>(HS2.out.alloc o).c0;have l2:E<w2.heap.size:=e5
     go_region_with (go_at_call 107;refine(xR N E _ xs _ ?_ ?_).mono ?_;(first|(show N<=w2.heap.size;omega)|(simp;omega));(first|exact HI2.out.at (by omega) (aQ _ _).drew|exact HI2.out.at (by omega) (ba _ _).drew|exact HI2.out.at (by omega) ((aQ _ _).drew.alloc (vQ _) _));rintro x3 w3 ⟨v3,rfl,hI3,hb3⟩;obtain⟨av,cv,hv3,_⟩:=hI3 0 (by first|(show 0<w2.heap.size;omega)|(simp));subst hv3;obtain⟨hc3,hf3⟩:=bcell hb3;have l3:E<w3.heap.size:=(uX (by first|exact l2|(simp;omega)) hb3.size);have k1:w3.cell? ⟨E,3,none⟩=some (.int .i64 (u+1)):=(hc3 E 3 (by first|exact l2|(simp;omega))).trans (by first|exact e3|exact eo3 _);have k2:∀ o,(w3.alloc o).cell? ⟨E,3,none⟩=some (.int .i64 (u+1)):=(fun o=>((ba w3 o).cell (p:=⟨E,3,none⟩) l3).trans k1);(first|(have k3:w3.cell? ⟨w2.heap.size,0,none⟩=some (.slice none 0 0):=(hc3 w2.heap.size 0 (by simp)).trans (nc _ _ 0 _ rfl rfl);have k4:w3.cell? ⟨w2.heap.size,1,none⟩=some (.int .i64 0):=(hc3 w2.heap.size 1 (by simp)).trans (nc _ _ 1 _ rfl rfl);have k5:w3.frozen? ⟨w2.heap.size,0,none⟩=false:=(hf3 w2.heap.size 0 (by simp)).trans (nf _ _ 0 rfl);have k6:w3.frozen? ⟨w2.heap.size,1,none⟩=false:=(hf3 w2.heap.size 1 (by simp)).trans (nf _ _ 1 rfl))|skip);clear hc3 hf3)
     all_goals first
      | (have hmark:=k3
         clear hmark;generalize hY:(w3.setCell ⟨w2.heap.size,0,none⟩ (.slice av xs.length cv)).setCell ⟨w2.heap.size,1,none⟩ (.int .i64 (u+1))=Y;have hb32:Below w2.heap.size w2 w3:=(ba w2 (.cells #[.slice none 0 0,.int .i64 0] 162)).drew.trans (hb3.mono (show w2.heap.size<=(w2.alloc (.cells #[.slice none 0 0,.int .i64 0] 162)).heap.size by simp));have hl3:w2.heap.size<w3.heap.size:=by have h:(w2.alloc (.cells #[.slice none 0 0,.int .i64 0] 162)).heap.size<=w3.heap.size:=hb3.size;simp at h;omega
         have hbY:Below w2.heap.size w2 Y:=hY▸((hb32.setCell (p:=⟨w2.heap.size,0,none⟩) (vQ _) _).setCell (p:=⟨w2.heap.size,1,none⟩) (vQ _) _);have HDY:Hid (Rv Y w2.heap.size (.slice av xs.length cv) (u+1)):=hY▸(show Rv w3 w2.heap.size (.slice none 0 0) 0 from ⟨k3,k4,k5,k6,hl3⟩).put _ _
         have HIY:Hid (∀ m,m<w2.heap.size+1->jQ Y Y.heap.size m (.slice av xs.length cv) xs):=by
          have h1:=jQ.setm (jQ.setm (fun m (hm:m<w2.heap.size+1)=>hI3 m (show m<(w2.alloc (.cells #[.slice none 0 0,.int .i64 0] 162)).heap.size by simpa using hm)) w2.heap.size 0 (by omega) (.slice av xs.length cv)) w2.heap.size 1 (by omega) (.int .i64 (u+1));intro m hm;have h2:=h1 m hm;rw[<-hY];simpa using h2
         clear hY k3 k4 k5 k6;generalize hR8:w2.heap.size=R8 at HDY ⊢;have hR9:w2.heap.size<=R8:=by omega)
      | (generalize hY:w3.alloc (.cells #[.slice av xs.length cv,.int .i64 (u+1)] 162)=Y
         have hb32:Below w2.heap.size w2 w3:=(aQ w2.heap.size w2).drew.trans hb3;have hbY:Below w2.heap.size w2 Y:=hY▸bal hb32 _;have HDY:Hid (Rv Y w3.heap.size (.slice av xs.length cv) (u+1)):=hY▸Rv.new _ _ _ _ _ rfl;have HIY:Hid (∀ m,m<w2.heap.size->jQ Y Y.heap.size m (.slice av xs.length cv) xs):=fun m hm=>hY▸(hI3 m hm).at2 (ba _ _);have hl3:w2.heap.size<=w3.heap.size:=hb32.size;clear hY;generalize hR8:w3.heap.size=R8 at HDY ⊢;have hR9:w2.heap.size<=R8:=by omega)
     all_goals
      have HRY:=qQ (HR2.out.at hbY);have HVY:=qQ (HV2.out.below hbY);have HGY:=qQ (bY HG2.out (dH hbY));have HFY:Hid (∀ m,m<w.heap.size+1->jQ Y Y.heap.size m (.slice av xs.length cv) xs):=fun m hm=>HIY.out m (by omega);clear hb3 hI3 k1 k2 HIY HR2 HV2 HG2 HS2 e0 e1 e2 e3 e4 ez r0 r1 r2 r3 g0 g1 g2 g3 eo3 go0 hb32 hbY
     all_goals
      have ne1:¬ w.heap.size=E:=by omega
      have ne2:¬ E=w.heap.size:=by omega
      have ne3:¬ R8=E:=by omega
      have ne4:¬ E=R8:=by omega
      have ne5:¬ R8=w.heap.size:=by omega
      have ne6:¬ w.heap.size=R8:=by omega
      have kb:=avQ Y;go_wp2_with fail;refine kb.mono ?_;rintro e w4 ⟨rfl,hb4⟩;have HR4:=qQ (HRY.out.at hb4);have HV4:=qQ (HVY.out.below hb4);have HD4:=qQ (HDY.out.below hb4);have HG4:=qQ (bY HGY.out (dH hb4));have HF4:Hid (∀ m,m<w.heap.size+1->jQ w4 w4.heap.size m (.slice av xs.length cv) xs):=fun m hm=>(HFY.out m hm).at2 hb4;clear kb hb4 HRY HVY HDY HGY HFY;obtain⟨e0,e1,e2,e3,e4,ez,_⟩:=id HR4.out;obtain⟨r0,r1,r2,r3,_⟩:=id HV4.out;obtain⟨g0,g1,g2,g3,_⟩:=id HD4.out;have y2:=ez 2;have y3:=ez 3;have y4:=ez 4;clear ez;go_wp2;generalize hZ:((((w4.setCell ⟨E,2,none⟩ (.int .i64 0)).setCell ⟨E,3,none⟩ (.int .i64 0)).setCell ⟨E,4,none⟩ (.int .i64 1)).setCell ⟨w.heap.size,0,none⟩ (.slice av xs.length cv)).setCell ⟨w.heap.size,1,none⟩ (.int .i64 (u+1))=Z;have HRZ:Rob Z E (.slice (some ⟨bb,bo,none⟩) ts.length c) T 0 0 1:=hZ▸(((((HR4.out.s2 0).s3 0).s4 1).other w.heap.size 0 (by omega) _).other w.heap.size 1 (by omega) _);have HVZ:Rv Z w.heap.size (.slice av xs.length cv) (u+1):=hZ▸((((HV4.out.other E 2 (by omega) _).other E 3 (by omega) _).other E 4 (by omega) _).put _ _);have HGZ:w.grownBy Z (some E):=hZ▸bL (bL (iM (iM (iM HG4.out 2 _) 3 _) 4 _) (p:=⟨w.heap.size,0,none⟩) (vQ _) _) (p:=⟨w.heap.size,1,none⟩) (vQ _) _
      have HFZ:∀ m,m<w.heap.size+1->jQ Z Z.heap.size m (.slice av xs.length cv) xs:=by
       have h1:=jQ.setm (jQ.setm (jQ.setm (jQ.setm (jQ.setm HF4.out E 2 (by omega) (.int .i64 0)) E 3 (by omega) (.int .i64 0)) E 4 (by omega) (.int .i64 1)) w.heap.size 0 (by omega) (.slice av xs.length cv)) w.heap.size 1 (by omega) (.int .i64 (u+1));intro m hm;have h2:=h1 m hm;rw[<-hZ];simpa using h2
      clear hZ;obtain⟨z0,z1,_,_,_⟩:=HVZ;exact uQ (v:=.tuple #[.agg #[.slice av xs.length cv,.int .i64 (u+1)],.bool true]) (by simp[results,results191,go_sem,z0,z1]) rfl ⟨HGZ,.inr ⟨av,cv,xs,rfl,fun m hm=>HFZ m (by omega),by rw[HM.out,vK];exact HE.out,HRZ⟩⟩
    ·have h4:¬ (m:Int) - q=0:=by omega
     have h4':((m:Int) - q == 0)=false:=by simpa using h4
     have f2:=ez 2;clear ez;go_wp2
     go_roundw
     case rel=>exact⟨i+1,by go_num,h1,by rw[HQ2.out];show q+1<=m;omega,by rw[HQ2.out];exact(HR2.out.s2 ((m:Int) - q - 1)).nd (by omega),iM HG2.out 2 _,HV2.out.other E 2 (by omega) _⟩
     case measure=>simp[intOf];omega
  ·have HQ2:Hid ((rZ T pl (rd ts)).length=q):=by have:=HQ.out;rwa [pJ (by omega)] at this
   have HN:Hid ((rZ T pl (rd ts))[(2*nd+b).toNat]? = none):=by
    rw[Hid,HM.out,vK];exact rS (by rw[HQ2.out];exact hqm)
   obtain⟨e0,e1,e2,e3,e4,ez,_⟩:=id HR.out;obtain⟨r0,r1,r2,r3,_⟩:=id HV.out;have y4:=ez 4;have hT0:¬ T=0:=by omega
   have ne1:¬ w.heap.size=E:=by omega
   have ne2:¬ E=w.heap.size:=by omega
   obtain⟨M,hM⟩:∃ M,2*pl % T=M:=⟨_,rfl⟩;have hM2:0<=M/\M<T:=by rw[<-hM];exact⟨Int.emod_nonneg _ (by omega),Int.emod_lt_of_pos _ (by omega)⟩
   have HMM:=qQ hM;clear ez;go_wp2
   go_region
   generalize hX:(wr.setCell ⟨E,4,none⟩ (.int .i64 M)).drew=X2;have HRX2:Hid (Rob X2 E (.slice a ts.length c) T ((m:Int) - q) (u+1) M):=hX▸(HR.out.s4 M).drew;have HVX2:Hid (Rv X2 w.heap.size (.slice none 0 0) 0):=hX▸(HV.out.other E 4 (by omega) _).drew;have HGX2:Hid (w.grownBy X2 (some E)):=hX▸eJ (iM HG.out 4 _);clear hX hM e0 e1 e2 e3 e4 r0 r1 r2 r3 y4;obtain⟨r0,r1,r2,r3,_⟩:=id HVX2.out;have HVZ:=HVX2.out.put (.slice none 0 0) 0;go_wp2;obtain⟨z0,z1,_,_,_⟩:=HVZ
   exact uQ (v:=.tuple #[dK,.bool false]) (by simp[results,results191,go_sem,z0,z1]) rfl
    ⟨bL (bL HGX2.out (p:=⟨w.heap.size,0,none⟩) (vQ _) _) (p:=⟨w.heap.size,1,none⟩) (vQ _) _,.inl ⟨rfl,HN.out,by
     rw[HMM.out,HQ2.out,HM.out];exact(HRX2.out.other w.heap.size 0 (by omega) _).other w.heap.size 1 (by omega) _⟩⟩
theorem fQ.elem {ts:List Tr}(h:fQ w B v ts)(hB:B<=w.heap.size)(hb:Below w.heap.size w wr){t:Tr}(ht:t∈ts):jQ wr B B t.1 t.2.1:=by
 obtain⟨_,_,_,_,_,hI,_⟩:=h;exact(hI t ht).at hB hb
def slen:Value->Nat
 | .slice _ n _=>n
 | _=>0
theorem cL {xs:List Value}(h:w.ownsRow base e size v n xs)(hb:Below w.heap.size w w'):w'.ownsRow base e size v n xs:=by
 obtain⟨h1,h2⟩:=h;refine⟨h1,?_⟩;rcases h2 with h2|⟨g,cap,cur,hv,hg,hcur,h3⟩
 ·exact .inl h2
 ·exact .inr ⟨g,cap,cur,hv,hg,by rw[hb.block g (zJ.1 hcur).1];exact hcur,h3⟩
theorem zO {xs:List Value}(h:w.ownsRow base e size v n xs):∀ k,v.ownBlock=some k->base<=k:=by
 intro k hk;obtain⟨_,⟨rfl,_⟩|⟨g,cap,cur,rfl,hg,_⟩⟩:=h
 ·simp[Value.ownBlock] at hk
 ·simp[Value.ownBlock] at hk;omega
theorem bF {xs:List Value}(h:w.ownsRow base e size v n xs):∃ a c,v=.slice a n c:=by
 obtain⟨_,⟨rfl,rfl⟩|⟨g,cap,cur,rfl,_⟩⟩:=h
 ·exact⟨_,_,rfl⟩
 ·exact⟨_,_,rfl⟩
theorem avZ (ds:List Tr)(v:Value)(xs:List Int)(k:Int):flat ds++[v,.int .i64 k]=flat (ds++[(v,xs,k)]):=by simp[flat]
def zX (w:World) (lo:Nat) (v:Value) (ds:List Tr):Prop :=
 w.ownsRow lo 82 2 v ds.length (flat ds)/\∀ t∈ds,∃ m,jQ w w.heap.size m t.1 t.2.1/\∀ g,v.ownBlock=some g->m=g
theorem zX.nil (w:World)(lo:Nat):zX w lo (.slice none 0 0) []:=⟨⟨rfl,.inl ⟨rfl,rfl⟩⟩,fun t ht=>by cases ht⟩
theorem zX.keep {lo:Nat}{ds:List Tr}(h:zX w lo v ds)(hb:Below w.heap.size w w'):zX w' lo v ds :=
 ⟨cL h.1 hb,fun t ht=>let ⟨m,h1,h2⟩:=h.2 t ht;⟨m,h1.at2 hb,h2⟩⟩
theorem zX.slice {lo:Nat}{ds:List Tr}(h:zX w lo v ds):∃ a c,v=.slice a ds.length c:=bF h.1
theorem zX.lt {lo:Nat}{ds:List Tr}(h:zX w lo v ds):∀ g,v.ownBlock=some g->lo<=g/\g<w.heap.size:=h.1.lt
theorem jQ.grow {m':Nat}(h:jQ W B m s xs)(hg:W.grownBy w' row)(hB:B<=W.heap.size)(hrow:∀ g,row=some g->m=g)(hm:m' = m\/B<=m'):jQ w' w'.heap.size m' s xs:=by
 obtain⟨a,c,hv,hc,hl,hx⟩:=h;refine⟨a,c,hv,hc,hl,fun hne=>?_⟩;obtain⟨b,o,ha,hb,hn,hcell⟩:=hx hne;have:=hg.size;refine⟨b,o,ha,by omega,by rcases hm with h|h <;> omega,fun i x hi=>?_⟩;refine hg.cell (hcell i x hi) fun e=>hn ?_;exact(hrow b e.symm).symm
theorem zX.app {lo:Nat}{v':Value}{ds:List Tr}(h:zX W lo v ds)(hown:w'.ownsRow lo 82 2 v' (ds.length+1) (flat ds++[s,.int .i64 k]))(hg:W.grownBy w' v.ownBlock)
  (hat:v'.ownBlock=v.ownBlock\/v'.ownBlock=some W.heap.size) (hi:jQ W W.heap.size m s xs) (hm:∀ g,v.ownBlock=some g->m=g):zX w' lo v' (ds++[(s,xs,k)]):=by
 refine⟨by rw[<-avZ];simpa using hown,fun t ht=>?_⟩
 have key:∀ (m:Nat) (s:Value) (xs:List Int),jQ W W.heap.size m s xs->(∀ g,v.ownBlock=some g->m=g)->∃ m',jQ w' w'.heap.size m' s xs/\∀ g,v'.ownBlock=some g->m' = g:=by
  intro m s xs h1 h2;rcases hat with hat|hat
  ·exact⟨m,h1.grow hg (vQ _) h2 (.inl rfl),by rw[hat];exact h2⟩
  ·exact⟨W.heap.size,h1.grow hg (vQ _) h2 (.inr (vQ _)),by rw[hat];intro g e;simpa using e⟩
 rcases gV.1 ht with ht|ht
 ·obtain⟨m,h1,h2⟩:=h.2 t ht
  exact key m t.1 t.2.1 h1 h2
 ·obtain rfl:t=(s,xs,k):=by simpa using ht
  exact key m s xs hi hm
theorem zX.parts {lo:Nat}{ds:List Tr}(h:zX w lo v ds)(hl:ds.length<=1073741824):fQ w w.heap.size v ds:=by
 have hi:∀ t∈ds,jQ w w.heap.size w.heap.size t.1 t.2.1:=fun t ht=>let ⟨m,h1,_⟩:=h.2 t ht;h1.mono (vQ _) (.inr (vQ _));by_cases hv:v=.slice none 0 0
 ·subst hv
  have h0:ds=[]:=by
   obtain⟨_,⟨_,h0⟩|⟨g,cap,cur,hv,_⟩⟩:=h.1
   ·exact xH.1 h0
   ·cases hv
  subst h0;exact bK w _
 ·obtain⟨g,cap,rfl,hcap,hgb,hrow⟩:=fT rfl h.1 hv
  exact⟨_,cap,rfl,hcap,hl,hi,fun _=>⟨g,0,rfl,hrow.lt,hrow.cells⟩⟩
theorem avJ (B:Nat)(v:Value)(ts:List Tr)(w:World)(hB:B<=w.heap.size)(hx:fQ w B v ts) :
  Calls prog 172 #[v] w fun e w'=>∃ v',e=.returned v'/\Below w.heap.size w w' /\
   ((ts=[]/\v' = .slice none 0 0)\/∃ g cap,v' = .slice (some ⟨g,0,none⟩) ts.length cap/\ts.length<=cap/\w.heap.size<=g/\Row w' g 0 ts):=by
 obtain⟨a,c,rfl,hc,hl,hI,hxx⟩:=hx;have q23:∀ (w:World) (a:Option Addr) (n c n' c':Nat),(binOp .eql 66 (.slice a n c) (.slice none n' c')).run prog w=.ok (.bool a.isNone) w:=fun w a n c n' c'=>nP w _ _ a n c n' c' underlying66;cases a with
 | none =>
  obtain rfl:ts=[]:=by
   cases ts with
   | nil=>rfl
   | cons x l=>obtain⟨b,o,h,_⟩:=hxx (by simp);cases h
  clear hxx hI;go_enter func172,ntmps172;go_wp2;go_ret;exact⟨_,rfl,aQ _ _,by simp⟩
 | some ad =>
  have A:Hid (∀ j u,(flat ts)[j]? = some u->∀ o,(w.alloc o).cell? (ad.add j)=some u):=by
   intro j u hj o;have hlt:j<ts.length*2:=by rw[<-aL];exact(cQ.1 hj).1
   obtain⟨b,o',he,hb,hcell⟩:=hxx (by rintro rfl;simp at hlt);simp only[xX] at he;subst he;rw[nU,yH _ _ _ (by simp;omega)];exact dW hcell j u hj
  have A1:Hid (∀ u∈flat ts,u.oneCell' = true):=by
   intro u hu;obtain⟨t,ht,hu⟩:=dN.1 hu;obtain⟨sa,sc,he,_⟩:=hI t ht;simp only[eX,zF,jF] at hu;rcases hu with rfl|rfl
   ·rw[he];rfl
   ·rfl
  obtain⟨i0,hi,hz0,hz1,hz2⟩:=rJ fM;clear hxx hI;have hnb:Hid (ts.length*32<=140737488355328/\ts.length<=maxLen):=⟨by omega,by simp[maxLen];omega⟩;go_enter func172,ntmps172;go_wp2_with (at_builtin;refine xL _ rfl _ _ 66 rfl w.heap.size 82 i0 (.agg #[.slice none 0 0,.int .i64 0]) 2 32 underlying66 hi hz0 hz1 hz2 rfl (by decide) _ _ _ rfl (oP w #[] 0 (vQ _) (kQ _) (by simp)) ad ts.length c (flat ts) rfl ?qc1 ?qc2 ?qc3 ?qc4 ?qc5 ?qc6 ?_)
  case qc1=>exact aL ts
  case qc2=>intro j u hj;exact A.out j u hj _
  case qc3=>exact A1.out
  case qc4=>rw[xZ];exact hnb.out.2
  case qc5=>rw[xZ];exact hnb.out.1
  case qc6=>simp
  intro v' w1 hown hgrow hnil;go_wp2;go_ret;refine⟨v',rfl,?_,.inr ?_⟩
  ·exact((aQ _ w).alloc (vQ _) _).grown hgrow (by simp) (by intro k hk;simp[Value.ownBlock] at hk;omega)
  ·exact fT (xZ _) (by simpa using hown) hnil
theorem dL (B:Nat)(v:Value)(ts:List Tr)(w:World)(hB:B<=w.heap.size)(hp:fQ w B v ts)(er:Int)(hr:(pX (rd ts)).2=er) :
  Calls prog 185 #[v] w fun e w'=>e=.returned (.int .i64 er)/\Below w.heap.size w w':=by
 have kc:=zR B v ts w hB hp (pX (rd ts)).1 er (by rw[<-hr]);obtain⟨a,c,rfl,hc,hl,_⟩:=hp;clear hr;go_enter func185,ntmps185;go_wp2_with fail;refine kc.mono ?_;rintro e w1 ⟨v1,us,rfl,hrd,ho,hb1⟩;obtain⟨a1,c1,rfl⟩:=ho.slice;clear ho hrd kc;go_wp2;go_ret;exact⟨rfl,hb1⟩
def fH (l:List Pt):Option (List Int):=match l with
 | [p]=>some p.1
 | _=>none
theorem clJ {l:List Pt}{p:Pt}(h:l[0]? = some p)(h1:l.length=1):fH l=some p.1:=by
 match l,h1,h with
 | [q],_,h=>simp at h;subst h;rfl
theorem cmQ {l:List Pt}(h1:l.length≠1):fH l=none:=by
 match l,h1 with
 | [],_=>rfl
 | _::_::_,_=>rfl
theorem cmX (N E:Nat)(a:Option Addr)(c:Nat)(ts:List Tr)(T nd u pl:Int)(w:World)(h:Rob w E (.slice a ts.length c) T nd u pl)(hP:Rop w N E a c ts)(hN:N<=w.heap.size) :
  Calls prog 190 #[.pointer (some ⟨E,0,none⟩)] w (auX (fH (rd ts)) w):=by
 have H:=qQ h;have HP:=qQ hP;obtain⟨c0,_,_,_,_,_,lt⟩:=h;have hfw:=hP.few;clear hP;by_cases h1:ts.length=1
 ·obtain⟨bb,bo,sa,sc,xs,k,rfl,hbN,hbE,hs,d1,d2,hI⟩:=HP.out.get (i:=0) (by omega)
  have HS:=qQ (clJ (pV hs) (by rw[rV,h1]));have HI:=qQ hI;simp only[jI,oA] at d1;rw[h1] at c0;have hc1:1<=c:=by have:=HP.out.cap;omega
  have HV:Hid (Rv (w.alloc (.cells #[.slice none 0 0,.int .i64 0] 162)) w.heap.size (.slice none 0 0) 0):=Rv.new _ _ _ _ _ rfl;have hb0:Below w.heap.size w (w.alloc (.cells #[.slice none 0 0,.int .i64 0] 162)):=ba _ _;have kc:=xR N E (.slice sa xs.length sc) xs (w.alloc (.cells #[.slice none 0 0,.int .i64 0] 162)) (by simp;omega) (HI.out.at hN hb0);have d3:∀ o,(w.alloc o).cell? ⟨bb,bo,none⟩=some (.slice sa xs.length sc):=fun o=>((ba w o).cell (p:=⟨bb,bo,none⟩) (show bb<w.heap.size by omega)).trans d1;clear hs hI h1;go_enter func190,ntmps190;go_wp2_with fail;refine kc.mono ?_;rintro e w1 ⟨v1,rfl,hI1,hb1⟩;obtain⟨av,cv,rfl,_⟩:=hI1 w.heap.size (by simp);have HV1:=qQ (HV.out.below hb1);have HI1:Hid (∀ m,m<w.heap.size+1->jQ w1 w1.heap.size m (.slice av xs.length cv) xs):=fun m hm=>hI1 m (by simpa using hm);have hbw:Below w.heap.size w w1:=bt hb0 hb1;clear kc hI1 hb1;obtain⟨r0,r1,r2,r3,r4⟩:=id HV1.out;go_wp2;generalize hZ:(w1.setCell ⟨w.heap.size,0,none⟩ (.slice av xs.length cv)).setCell ⟨w.heap.size,1,none⟩ (.int .i64 0)=Z;have hbZ:Below w.heap.size w Z:=hZ▸bs (bs hbw (p:=⟨w.heap.size,0,none⟩) (vQ _) _) (p:=⟨w.heap.size,1,none⟩) (vQ _) _;have HVZ:Rv Z w.heap.size (.slice av xs.length cv) 0:=hZ▸HV1.out.put _ _
  have HFZ:∀ m,m<w.heap.size+1->jQ Z Z.heap.size m (.slice av xs.length cv) xs:=by
   have h1:=jQ.setm (jQ.setm HI1.out w.heap.size 0 (by omega) (.slice av xs.length cv)) w.heap.size 1 (by omega) (.int .i64 0);intro m hm;have h2:=h1 m hm;rw[<-hZ];simpa using h2
  clear hZ;obtain⟨z0,z1,_,_,_⟩:=HVZ;refine uQ (v:=.tuple #[.agg #[.slice av xs.length cv,.int .i64 0],.bool true]) (by simp[results,results190,go_sem,z0,z1]) rfl ⟨hbZ,fun hh=>?_,fun o ho=>?_⟩
  ·rw[HS.out] at hh;cases hh
  ·rw[HS.out] at ho
   simp only[xX] at ho;subst ho;exact⟨av,cv,rfl,fun m hm=>HFZ m (by omega)⟩
 ·have HS:Hid (fH (rd ts)=none):=cmQ (by rw[rV];exact h1)
  have h1':((ts.length:Int) == 1)=false:=by simp;omega
  have h1'':¬ (ts.length:Int)=1:=by omega
  go_enter func190,ntmps190;go_wp2;refine uQ (v:=.tuple #[dK,.bool false]) (by simp[results,results190,go_sem]) rfl ⟨ba _ _,fun _=>rfl,fun o ho=>?_⟩;rw[HS.out] at ho;cases ho
def cmZ (l:List Pt) (er:Int) (w:World) (e:Ending) (w':World):Prop :=
 Below w.heap.size w w'/\((er≠0/\e=.returned (.tuple #[.pointer none,.int .i64 er])) \/
  (er=0/\∃ E a c us,e=.returned (.tuple #[.pointer (some ⟨E,0,none⟩),.int .i64 0])/\rd us=l/\Rob w' E (.slice a us.length c) (tot l) 0 0 1/\Rop w' w'.heap.size E a c us/\w.heap.size<=E))
theorem cmJ {us:List Tr}(h:us[i]? = some (s,xs,k)):rd (us.set i (s',xs,k))=rd us:=by
 rw[kT];refine cP fun j=>?_;by_cases e:i=j
 ·subst e
  have:=pV h;rw[fG (by have:=(cQ.1 this).1;exact this),this]
 ·rw[xF e]
theorem Row.setL {us:List Tr}(h:Row w b 0 us)(ht:us[i]? = some (s,xs,k))(s':Value) :
  Row (w.setCell ⟨b,i*2,none⟩ s') b 0 (us.set i (s',xs,k)):=by
 have hi:=(cQ.1 ht).1;refine⟨fun j u hu=>?_,fun j hj=>by rw[qZ];exact h.thaw j (by simpa using hj),by simpa using h.lt⟩;simp only[xZ];by_cases hj:i=j
 ·subst hj
  rw[fG hi] at hu;obtain rfl:(s',xs,k)=u:=by simpa using hu
  have c:=h.cells i _ ht;simp only[xZ] at c;exact⟨wZ c.1,by rw[gQ (by simp)];exact c.2⟩
 ·rw[xF hj] at hu
  have c:=h.cells j u hu;simp only[xZ] at c;exact⟨by rw[gQ (by simp <;> omega)];exact c.1,by rw[gQ (by simp <;> omega)];exact c.2⟩
theorem jQ.set2 (h:jQ w B b v xs)(hm:jQ w B m v xs)(k:Nat)(u:Value):jQ (w.setCell ⟨b,k,none⟩ u) B m v xs:=by
 obtain⟨a,c,hv,hc,hl,hx⟩:=hm;refine⟨a,c,hv,hc,hl,fun hne=>?_⟩;obtain⟨b1,o1,ha,hb,hn,hcell⟩:=hx hne;refine⟨b1,o1,ha,hb,hn,fun i x hi=>?_⟩;rw[gQ]
 ·exact hcell i x hi
 ·obtain⟨a2,c2,hv2,_,_,hx2⟩:=h
  obtain⟨b2,o2,ha2,_,hn2,_⟩:=hx2 hne;rw[hv,ha,ha2] at hv2;simp only[iZ,xX,jG] at hv2;intro e;simp only[jG] at e;omega
theorem vR (B:Nat)(v:Value)(ts:List Tr)(w:World)(hB:B<=w.heap.size)(hp:fQ w B v ts)(l0:List Pt)(er:Int)(hr:pX (rd ts)=(l0,er)) :
  Calls prog 113 #[v] w (cmZ (rd ts) er w):=by
 have kw:=dL B v ts w hB hp er (by rw[hr]);have HP:Hid (fQ w B v ts):=hp;have HR:Hid (pX (rd ts)=(l0,er)):=hr;obtain⟨a,c,rfl,hc,hl,_⟩:=hp;clear hr;go_enter func113,ntmps113;go_wp2_with fail;refine kw.mono ?_;rintro e w1 ⟨rfl,hb1⟩;clear kw;by_cases h0:er=0
 ·subst h0
  obtain⟨_,hdis⟩:=dD HR.out;have HD:Hid (Dis (rd ts)):=hdis;have hne:Hid (ts≠[]):=fun h=>hdis.ne (by rw[h];rfl);have hfw:ts.length<=4096:=by have:=hdis.few;rwa [rV] at this
  have hs1:=hb1.size;have kc:=avJ B _ ts w1 (by omega) (HP.out.at hB hb1);clear hdis;go_wp2_with fail;refine kc.mono ?_;rintro e w2 ⟨v2,rfl,hb2,h2⟩
  obtain⟨g,cap,rfl,hcap,hg1,hrow⟩:∃ g cap,v2=.slice (some ⟨g,0,none⟩) ts.length cap/\ts.length<=cap/\w1.heap.size<=g/\Row w2 g 0 ts:=by
   rcases h2 with⟨h,_⟩|h
   ·exact absurd h hne.out
   ·exact h
  have HW2:Hid (Row w2 g 0 ts):=hrow;have hg2:=hrow.lt;have kb:=avQ w2;clear kc h2 hrow;go_wp2_with fail;refine kb.mono ?_;rintro e w3 ⟨rfl,hb3⟩;have hs2:=hb2.size;have hs3:=hb3.size;clear kb;go_wp2;generalize hX:w3.alloc (.cells #[.slice (some ⟨g,0,none⟩) ts.length cap,.int .i64 0,.int .i64 0,.int .i64 0,.int .i64 1] 273)=X;have hbX:Below w.heap.size w X:=hX▸bal (bt (bt hb1 hb2) hb3) _;have HRX:Hid (Rob X w3.heap.size (.slice (some ⟨g,0,none⟩) ts.length cap) 0 0 0 1):=hX▸⟨nc _ _ 0 _ rfl rfl,nc _ _ 1 _ rfl rfl,nc _ _ 2 _ rfl rfl,nc _ _ 3 _ rfl rfl,nc _ _ 4 _ rfl rfl,fun j=>nf _ _ j rfl,by simp⟩;have HWX:Hid (Row X g 0 ts):=hX▸(HW2.out.keep hb3).keep (ba _ _);have hgE:g<w3.heap.size:=by omega
  have hwE:w.heap.size<=w3.heap.size:=by omega
  have hwg:w.heap.size<=g:=by omega
  clear hX;generalize hE:w3.heap.size=E at hgE hwE HRX ⊢;clear hb1 hb2 hb3 HW2 hs1 hs2 hs3 hE hg1 hg2
  go_loopw [20] (fun iv wr=>∃ (i:Nat) (us:List Tr),iv=.int .i64 (i:Int)/\i<=ts.length/\us.length=ts.length/\Hid (rd us=rd ts)/\Hid (Row wr g 0 us)/\Hid (∀ t∈us,∀ m,m=E\/m=g->jQ wr wr.heap.size m t.1 t.2.1)/\Hid (Rob wr E (.slice (some ⟨g,0,none⟩) ts.length cap) (tot ((rd ts).take i)) 0 0 1)/\Below w.heap.size w wr) (fun iv _=>ts.length - (intOf iv).toNat)
  case atStart =>
   refine⟨0,ts,rfl,kQ _,rfl,rfl,HWX,fun t ht m hm=>?_,by simpa [tot] using HRX,hbX⟩;obtain⟨_,_,_,_,_,hI,_⟩:=HP.out.at hB hbX;exact(hI t ht).mono (bQ hB hbX.size) (.inr (by omega))
  case round =>
   obtain⟨i,us,rfl,hit,hul,HU,HW,HI,HR1,hbl⟩:=hrel;have hrl:=HR1.out.lt;have HUL:Hid (us.length=ts.length):=hul;clear hul;by_cases h1:i<ts.length
   ·obtain⟨b,o,sa,sc,xs,k,rfl,hb,hs,c1,c2,hIx⟩:=HP.out.get hB hbl h1
    have HS:Hid (ts[i]? = some (.slice sa xs.length sc,xs,k)):=hs;obtain⟨⟨s0,xs0,k0⟩,hs0⟩:=cX (l:=us) (i:=i) (by have:=HUL.out;omega)
    have hxk:xs0=xs/\k0=k:=by
     have e1:=pV hs0;rw[HU.out,pV hs] at e1;simp only[xX,dQ] at e1;exact⟨e1.1.symm,e1.2.symm⟩
    obtain⟨rfl,rfl⟩:=hxk;have HS0:Hid (us[i]? = some (s0,xs0,k0)):=hs0;have r1:=(HW.out.cells i _ hs0).1;have r2:=HW.out.thaw (i*2) (by have:=HUL.out;omega);simp only[xZ] at r1 r2;have HIx:Hid (jQ wr B B (.slice sa xs0.length sc) xs0):=hIx;clear hs hs0 hIx;go_wp2_with fail;generalize hO:Obj.cells #[Value.slice sa xs0.length sc,Value.int IntKind.i64 k0] 82=O;have HSW:Hid (Rv (wr.alloc O) wr.heap.size (.slice sa xs0.length sc) k0):=hO▸Rv.new _ _ _ _ _ rfl;have HRW:Hid (Rob (wr.alloc O) E (.slice (some ⟨g,0,none⟩) ts.length cap) (tot ((rd ts).take i)) 0 0 1):=HR1.out.alloc O;have hgl:=HW.out.lt;have t1:(wr.alloc O).cell? ⟨g,i*2,none⟩=some s0:=((ba wr O).cell (p:=⟨g,i*2,none⟩) hgl).trans r1;have t2:(wr.alloc O).frozen? ⟨g,i*2,none⟩=false:=((ba wr O).frozen (p:=⟨g,i*2,none⟩) hgl).trans r2;have g7:(wr.alloc O).heap.size=wr.heap.size+1:=by simp
    obtain⟨W,hW⟩:∃ W,wr.alloc O=W:=⟨_,rfl⟩;have HB:Hid (Below wr.heap.size wr W):=hW▸ba wr O;rw[hW] at HSW HRW t1 t2 g7 ⊢;clear hO hW r1 r2 c1 c2;have s1:=HSW.out.c0;have s2:=HRW.out.c0;have ne1:¬ g=E:=by omega
    have ne2:¬ E=g:=by omega
    have ne3:¬ g=wr.heap.size:=by omega
    have ne4:¬ wr.heap.size=g:=by omega
    have lw1:g<W.heap.size:=by omega
    have lw2:wr.heap.size<W.heap.size:=by omega
    have lw3:E<W.heap.size:=by omega
    have y1:(i:Int)<(ts.length:Int):=by omega
    go_region_held3 (fun w'=>w'.cell? ⟨wr.heap.size,0,none⟩=some (.slice sa xs0.length sc)/\w'.cell? ⟨E,0,none⟩=some (.slice (some ⟨g,0,none⟩) ts.length cap))
     ((go_split_ands;refine⟨?_,?_⟩ <;> first|assumption|(simp[go_sem, *];done)))
     ((go_at_call 107;refine(xR B B _ xs0 _ ?_ ?_).mono ?_;(have:=HB.out.size;have:=hbl.size;show B<=W.heap.size;omega);(exact HIx.out.at (by have:=hbl.size;omega) HB.out.drew);rintro x1 w4 ⟨v',rfl,hI4,hb4⟩;obtain⟨av,cv,hv1,_⟩:=hI4 0 (by show 0<W.heap.size;omega);subst hv1;obtain⟨hc4,hf4⟩:=bcell hb4;have hs4:W.heap.size<=w4.heap.size:=hb4.size;have q1:w4.cell? ⟨g,i*2,none⟩=some s0:=(hc4 _ _ lw1).trans t1;have q2:w4.frozen? ⟨g,i*2,none⟩=false:=(hf4 _ _ lw1).trans t2;have q3:w4.cell? ⟨wr.heap.size,0,none⟩=some (.slice sa xs0.length sc):=(hc4 _ _ lw2).trans s1;have q4:w4.cell? ⟨E,0,none⟩=some (.slice (some ⟨g,0,none⟩) ts.length cap):=(hc4 _ _ lw3).trans s2;clear hc4 hf4))
    have hbW:Below wr.heap.size wr w4:=bt HB.out.drew hb4;have HSY:Hid (Rv (w4.setCell ⟨g,i*2,none⟩ (.slice av xs0.length cv)) wr.heap.size (.slice sa xs0.length sc) k0):=(HSW.out.below ((aQ _ W).drew.trans hb4)).other g (i*2) (by omega) _;have HRY:Hid (Rob (w4.setCell ⟨g,i*2,none⟩ (.slice av xs0.length cv)) E (.slice (some ⟨g,0,none⟩) ts.length cap) (tot ((rd ts).take i)) 0 0 1):=(HR1.out.at hbW).other g (i*2) (by omega) _;have HWY:Hid (Row (w4.setCell ⟨g,i*2,none⟩ (.slice av xs0.length cv)) g 0 (us.set i (.slice av xs0.length cv,xs0,k0))):=(HW.out.keep hbW).setL HS0.out _;have HUY:Hid (rd (us.set i (.slice av xs0.length cv,xs0,k0))=rd ts):=by rw[Hid,cmJ HS0.out];exact HU.out
    have HIY:Hid (∀ t∈us.set i (.slice av xs0.length cv,xs0,k0),∀ m,m=E\/m=g->jQ (w4.setCell ⟨g,i*2,none⟩ (.slice av xs0.length cv)) (w4.setCell ⟨g,i*2,none⟩ (.slice av xs0.length cv)).heap.size m t.1 t.2.1):=by
     intro t ht m hm
     have key:∀ (s:Value) (x:List Int),jQ w4 w4.heap.size g s x->jQ w4 w4.heap.size m s x->jQ (w4.setCell ⟨g,i*2,none⟩ (.slice av xs0.length cv)) (w4.setCell ⟨g,i*2,none⟩ (.slice av xs0.length cv)).heap.size m s x:=by
      intro s x hg hm2;have h1:=jQ.set2 hg hm2 (i*2) (.slice av xs0.length cv);simpa using h1
     rcases uK ht with h|rfl
     ·exact key _ _ ((HI.out t h g (.inr rfl)).at2 hbW) ((HI.out t h m hm).at2 hbW)
     ·exact key _ _ (hI4 g lw1) (hI4 m (by show m<W.heap.size;omega))
    have hbY:Below w.heap.size w (w4.setCell ⟨g,i*2,none⟩ (.slice av xs0.length cv)):=bs (bt hbl hbW) (p:=⟨g,i*2,none⟩) hwg _;have HT:Hid (tot ((rd ts).take (i+1))=tot ((rd ts).take i)+k0):=aW (pV HS.out);have ht1:=(Nn.of_pos HD.out.pos).tot_take_le i;have ht2:=(Nn.of_pos HD.out.pos).tot_take_le (i+1);have ht3:=HD.out.le;rw[HT.out] at ht2;obtain⟨tt,htt⟩:∃ tt,tot ((rd ts).take i)=tt:=⟨_,rfl⟩;have HTT:Hid (tot ((rd ts).take i)=tt):=htt;rw[htt] at HRY ht1 ht2;have hbd:0<=tt/\tt<=1073741824/\0<=tt+k0/\tt+k0<=1073741824:=by omega
    generalize hYY:w4.setCell ⟨g,i*2,none⟩ (.slice av xs0.length cv)=Y at HSY HRY HWY HIY hbY ⊢;clear hYY htt ht1 ht2 ht3 hb4 hI4 hbW q1 q2 q3 q4 s1 s2 t1 t2 HSW HRW HR1 HW HI HU HB;have s1:=HSY.out.c1;have s2:=HRY.out.c1;have s3:=HRY.out.fz 1;go_wp2
    go_region
    go_wp2
    go_roundw
    case rel =>
     refine⟨i+1,us.set i (.slice av xs0.length cv,xs0,k0),by go_num,h1,by simpa using HUL.out,HUY,?_,?_,?_,(bs hbY (p:=⟨E,1,none⟩) hwE _).drew⟩
     ·have:=HWY.out
      exact⟨fun j u hu=>by
       have c:=this.cells j u hu;exact⟨by rw[show((Y.setCell ⟨E,1,none⟩ (.int .i64 (tt+k0))).drew).cell? ⟨g,0+j*2,none⟩=(Y.setCell ⟨E,1,none⟩ (.int .i64 (tt+k0))).cell? ⟨g,0+j*2,none⟩ from rfl,gQ (fun e=>ne2 (congrArg Addr.block e))];exact c.1,by rw[show((Y.setCell ⟨E,1,none⟩ (.int .i64 (tt+k0))).drew).cell? ⟨g,0+j*2+1,none⟩=(Y.setCell ⟨E,1,none⟩ (.int .i64 (tt+k0))).cell? ⟨g,0+j*2+1,none⟩ from rfl,gQ (fun e=>ne2 (congrArg Addr.block e))];exact c.2⟩,
       fun j hj=>by
        have c:=this.thaw j hj;exact(qZ (w:=Y) (a:=⟨E,1,none⟩) (b:=⟨g,0+j,none⟩) (v:=.int .i64 (tt+k0))).trans c,by have:=this.lt;simpa using this⟩
     ·intro t ht m hm
      have h1:=jQ.set2 (HIY.out t ht E (.inl rfl)) (HIY.out t ht m hm) 1 (.int .i64 (tt+k0));have h2:jQ (Y.setCell ⟨E,1,none⟩ (.int .i64 (tt+k0))).drew Y.heap.size m t.1 t.2.1:=h1.keep (aQ _ _).drew;simpa using h2
     ·rw[HT.out,HTT.out]
      exact(HRY.out.s1 (tt+k0)).drew
    case measure=>simp[intOf];omega
   ·have HT:Hid (tot ((rd ts).take i)=tot (rd ts)):=by rw[Hid,uL (by omega)]
    rw[HT.out] at HR1;go_wp2;refine uQ (v:=.tuple #[.pointer (some ⟨E,0,none⟩),.int .i64 0]) (by simp[results,results113,go_sem]) rfl ⟨hbl,.inr ⟨rfl,E,some ⟨g,0,none⟩,cap,us,rfl,HU.out,by rw[HUL.out];exact HR1.out,⟨by rw[HUL.out];exact hcap,by rw[HUL.out];exact hfw,fun _=>⟨g,0,rfl,HW.out.lt,by omega,HW.out.cells⟩,fun t ht=>HI.out t ht E (.inl rfl)⟩,hwE⟩⟩
 ·have h0':(er == 0)=false:=by simpa using h0
  go_wp2;exact uQ (v:=.tuple #[.pointer none,.int .i64 er]) (by simp[results,results113,go_sem]) rfl ⟨hb1,.inl ⟨h0,rfl⟩⟩
end
end Go.Proofs.YtpmioeamdhdokaaGreat
