import Derived.Test.YtdceajgpolckiaaGreatDoorQq06
import Derived.Laws.Bits
import Derived.Deep.RegionWith
open Go.Proofs.Tryz
set_option linter.unusedSimpArgs false
set_option maxHeartbeats 16000000
set_option maxRecDepth 100000
namespace Go.Proofs.YtdceajgpolckiaaGreatDoor
section
open Go.RowKit Ds
structure Rob (w:World) (E:Nat) (v:Value) (T nd u pl:Int):Prop where
 c0:w.cell? ⟨E,0,none⟩=some v
 c1:w.cell? ⟨E,1,none⟩=some (.int .i64 T)
 c2:w.cell? ⟨E,2,none⟩=some (.int .i64 nd)
 c3:w.cell? ⟨E,3,none⟩=some (.int .i64 u)
 c4:w.cell? ⟨E,4,none⟩=some (.int .i64 pl)
 fz:∀ j,w.frozen? ⟨E,j,none⟩=false
 lt:E<w.heap.size
theorem Rob.keep {w w':World}{E N:Nat}{v:Value}{T nd u pl:Int}(h:Rob w E v T nd u pl)(b:Below N w w')(hE:E<N):Rob w' E v T nd u pl :=
 ⟨(b.cell (p:=⟨E,0,none⟩) hE).trans h.c0,(b.cell (p:=⟨E,1,none⟩) hE).trans h.c1,(b.cell (p:=⟨E,2,none⟩) hE).trans h.c2,(b.cell (p:=⟨E,3,none⟩) hE).trans h.c3,(b.cell (p:=⟨E,4,none⟩) hE).trans h.c4,
  fun j=>(b.frozen (p:=⟨E,j,none⟩) hE).trans (h.fz j),qX h.lt b.size⟩
theorem Rob.at {w w':World}{E:Nat}{v:Value}{T nd u pl:Int}(h:Rob w E v T nd u pl)(b:Below w.heap.size w w'):Rob w' E v T nd u pl:=h.keep b h.lt
theorem Rob.alloc {w:World}{E:Nat}{v:Value}{T nd u pl:Int}(h:Rob w E v T nd u pl)(o:Obj):Rob (w.alloc o) E v T nd u pl:=h.at (ba w o)
theorem Rob.drew {w:World}{E:Nat}{v:Value}{T nd u pl:Int}(h:Rob w E v T nd u pl):Rob w.drew E v T nd u pl:=⟨h.c0,h.c1,h.c2,h.c3,h.c4,h.fz,h.lt⟩
theorem Rob.s1 {w:World}{E:Nat}{v:Value}{T nd u pl:Int}(h:Rob w E v T nd u pl)(x:Int):Rob (w.setCell ⟨E,1,none⟩ (.int .i64 x)) E v x nd u pl :=
 ⟨by rw[rQ (by simp)];exact h.c0,jY h.c1,by rw[rQ (by simp)];exact h.c2,by rw[rQ (by simp)];exact h.c3,by rw[rQ (by simp)];exact h.c4,fun j=>by rw[iZ];exact h.fz j,by simpa using h.lt⟩
theorem Rob.s2 {w:World}{E:Nat}{v:Value}{T nd u pl:Int}(h:Rob w E v T nd u pl)(x:Int):Rob (w.setCell ⟨E,2,none⟩ (.int .i64 x)) E v T x u pl :=
 ⟨by rw[rQ (by simp)];exact h.c0,by rw[rQ (by simp)];exact h.c1,jY h.c2,by rw[rQ (by simp)];exact h.c3,by rw[rQ (by simp)];exact h.c4,fun j=>by rw[iZ];exact h.fz j,by simpa using h.lt⟩
theorem Rob.s3 {w:World}{E:Nat}{v:Value}{T nd u pl:Int}(h:Rob w E v T nd u pl)(x:Int):Rob (w.setCell ⟨E,3,none⟩ (.int .i64 x)) E v T nd x pl :=
 ⟨by rw[rQ (by simp)];exact h.c0,by rw[rQ (by simp)];exact h.c1,by rw[rQ (by simp)];exact h.c2,jY h.c3,by rw[rQ (by simp)];exact h.c4,fun j=>by rw[iZ];exact h.fz j,by simpa using h.lt⟩
theorem Rob.s4 {w:World}{E:Nat}{v:Value}{T nd u pl:Int}(h:Rob w E v T nd u pl)(x:Int):Rob (w.setCell ⟨E,4,none⟩ (.int .i64 x)) E v T nd u x :=
 ⟨by rw[rQ (by simp)];exact h.c0,by rw[rQ (by simp)];exact h.c1,by rw[rQ (by simp)];exact h.c2,by rw[rQ (by simp)];exact h.c3,jY h.c4,fun j=>by rw[iZ];exact h.fz j,by simpa using h.lt⟩
theorem Rob.other {w:World}{E:Nat}{v:Value}{T nd u pl:Int}(h:Rob w E v T nd u pl)(b k:Nat)(hb:b≠E)(x:Value):Rob (w.setCell ⟨b,k,none⟩ x) E v T nd u pl :=
 have hne:∀ j,(⟨b,k,none⟩:Addr)≠⟨E,j,none⟩:=fun j e=>hb (congrArg Addr.block e)
 ⟨by rw[rQ (hne 0)];exact h.c0,by rw[rQ (hne 1)];exact h.c1,by rw[rQ (hne 2)];exact h.c2,by rw[rQ (hne 3)];exact h.c3,by rw[rQ (hne 4)];exact h.c4,fun j=>by rw[iZ];exact h.fz j,by simpa using h.lt⟩
theorem Rob.nd {w:World}{E:Nat}{v:Value}{T nd nd' u pl:Int}(h:Rob w E v T nd u pl)(e:nd=nd'):Rob w E v T nd' u pl:=e▸h
structure Rop (w:World) (N E:Nat) (a:Option Addr) (c:Nat) (ts:List Tr):Prop where
 cap:ts.length<=c
 few:ts.length<=4096
 row:ts≠[]->∃ b o,a=some ⟨b,o,none⟩/\b<N/\b≠E/\jD w b o ts
 ls:∀ t∈ts,zQ w N E t.1 t.2.1
theorem Rop.keep {w w':World}{N E:Nat}{a:Option Addr}{c:Nat}{ts:List Tr}(h:Rop w N E a c ts)(hb:Below N w w'):Rop w' N E a c ts :=
 ⟨h.cap,h.few,fun hne=>let ⟨b,o,h1,h2,h3,h4⟩:=h.row hne;⟨b,o,h1,h2,h3,h4.keep hb h2⟩,fun t ht=>(h.ls t ht).keep hb⟩
theorem Rop.gb {w w':World}{N E:Nat}{a:Option Addr}{c:Nat}{ts:List Tr}(h:Rop w N E a c ts)(hg:w.grownBy w' (some E)):Rop w' N E a c ts :=
 ⟨h.cap,h.few,fun hne=>let ⟨b,o,h1,h2,h3,h4⟩:=h.row hne;⟨b,o,h1,h2,h3,fun i t ht=>⟨hg.cell (h4 i t ht).1 (by simpa using h3),hg.cell (h4 i t ht).2 (by simpa using h3)⟩⟩,fun t ht=>(h.ls t ht).gb hg⟩
theorem Rop.get {w:World}{N E:Nat}{a:Option Addr}{c:Nat}{ts:List Tr}(h:Rop w N E a c ts){i:Nat}(hi:i<ts.length) :
  ∃ b o sa sc xs k,a=some ⟨b,o,none⟩/\b<N/\b≠E/\ts[i]? = some (.slice sa xs.length sc,xs,k)/\w.cell? ⟨b,o+i*2,none⟩=some (.slice sa xs.length sc)/\w.cell? ⟨b,o+i*2+1,none⟩=some (.int .i64 k)/\zQ w N E (.slice sa xs.length sc) xs:=by
 obtain⟨b,o,ha,hb,hbe,hc⟩:=h.row (ne_of_lt hi);obtain⟨⟨s,xs,k⟩,hs⟩:=wX hi;have hI:=h.ls _ (uX hs);obtain⟨sa,sc,he,r⟩:=hI;simp only at he;subst he;obtain⟨c1,c2⟩:=hc i _ hs;exact⟨b,o,sa,sc,xs,k,ha,hb,hbe,hs,c1,c2,sa,sc,rfl,r⟩
theorem bmZ {ts:List Tr}{i:Nat}{t:Tr}(h:ts[i]? = some t):rd (ts.take (i+1))=rd (ts.take i)++[t.2]:=by
 rw[kZ,h];simp[rd]
theorem aT {T pl:Int}{ts:List Tr}{i:Nat}{s:Value}{xs:List Int}{k:Int}(h:ts[i]? = some (s,xs,k)) :
  uZ T pl (rd (ts.take (i+1)))=uZ T pl (rd (ts.take i))++if T<=2*rm T pl k then [xs] else []:=by
 rw[bmZ h,uW,uT];rfl
theorem bmJ {T pl:Int}{ts:List Tr}{i:Nat}{s:Value}{xs:List Int}{k:Int}(h:ts[i]? = some (s,xs,k))(hl:T<=2*rm T pl k) :
  (uZ T pl (rd ts))[(uZ T pl (rd (ts.take i))).length]? = some xs:=by
 have e:rd ts=rd (ts.take (i+1))++rd (ts.drop (i+1)):=by
  unfold rd;rw[<-uG,gR]
 rw[e,uW,aT h,xQ hl,List.append_assoc,dH (vQ _)];simp
theorem Rv.other {w:World}{R:Nat}{s:Value}{k:Int}(h:Rv w R s k)(b j:Nat)(hb:b≠R)(x:Value):Rv (w.setCell ⟨b,j,none⟩ x) R s k :=
 have hne:∀ i,(⟨b,j,none⟩:Addr)≠⟨R,i,none⟩:=fun i e=>hb (congrArg Addr.block e)
 ⟨by rw[rQ (hne 0)];exact h.c0,by rw[rQ (hne 1)];exact h.c1,by rw[iZ];exact h.f0,by rw[iZ];exact h.f1,by simpa using h.lt⟩
theorem dW (w:World):Calls prog 155 #[] w fun e w'=>e=.returned (.agg #[.int .i64 0,.int .i64 0,.int .i64 1])/\Below w.heap.size w w':=by
 go_enter func155,ntmps155;go_wp2;exact yQ (v:=.agg #[.int .i64 0,.int .i64 0,.int .i64 1]) (by simp[results,results155,go_sem]) rfl ⟨rfl,ba _ _⟩
theorem eW (E:Nat)(v sv:Value)(T nd u pl k:Int)(w:World)(h:Rob w E v T nd u pl)(hsv:∃ a n c,sv=.slice a n c)(hT:1<=T/\T<=1073741824)(hp:0<=pl/\pl<T)(hk:0<=k/\k<=1073741824)(r:Bool)(hr:decide (T<=2*rm T pl k)=r) :
  Calls prog 191 #[.pointer (some ⟨E,0,none⟩),.agg #[sv,.int .i64 k]] w fun e w'=>e=.returned (.bool r)/\Below w.heap.size w w':=by
 obtain⟨sa,sn,sc,rfl⟩:=hsv;have H:Hid (Rob w E v T nd u pl):=h;have HR:Hid (decide (T<=2*(k*pl % T))=r):=hr;have hz:0<=k*pl/\k*pl<=1152921504606846976:=⟨xI hk.1 hp.1,zL (bL hk.2 (show pl<=1073741824 by omega) hp.1 (by omega)) (by omega)⟩;obtain⟨P,hP⟩:∃ P,k*pl=P:=⟨_,rfl⟩;have HP:Hid (k*pl=P):=hP;rw[hP] at hz;have hm:0<=P % T/\P % T<T:=⟨Int.emod_nonneg _ (by omega),Int.emod_lt_of_pos _ (by omega)⟩;rw[Hid,hP] at HR;have HR2:Hid (decide (T<=2*(P % T))=r):=HR;clear HR;have c1:=(H.out.alloc (.cells #[.slice sa sn sc,.int .i64 k] 77)).c1;have c4:=(H.out.alloc (.cells #[.slice sa sn sc,.int .i64 k] 77)).c4;have hT0:¬ T=0:=by omega
 clear h hr;go_enter func191,ntmps191;go_wp2
 go_region
 obtain⟨M,hM⟩:∃ M,P % T=M:=⟨_,rfl⟩;rw[Hid,hM] at HR2;rw[hM] at hm ⊢;have HR3:Hid (decide (T<=2*M)=r):=HR2;clear hM HR2 hP HP;go_wp2;go_ret;exact⟨oF HR3.out,(ba _ _).drew⟩
def bnQ (E:Nat) (v:Value) (l:List Pt) (T nd u pl b:Int) (w:World) (e:Ending) (w':World):Prop :=
 w.grownBy w' (some E) /\
  ((e=.returned (.tuple #[nH,.bool false])/\(uZ T pl l)[(2*nd+b).toNat]? = none/\Rob w' E v T (2*nd+b - (uZ T pl l).length) (u+1) (2*pl % T)) \/
   (∃ a c o,e=.returned (.tuple #[.agg #[.slice a (o:List Int).length c,.int .i64 (u+1)],.bool true])/\(∀ m,m<w.heap.size->zQ w' w'.heap.size m (.slice a o.length c) o)/\(uZ T pl l)[(2*nd+b).toNat]? = some o/\Rob w' E v T 0 0 1))
theorem bnX (N E:Nat)(a:Option Addr)(c:Nat)(ts:List Tr)(T nd u pl β b:Int)(w:World)(hR:Rob w E (.slice a ts.length c) T nd u pl)(hP:Rop w N E a c ts)(hN:N<=w.heap.size)(h2:2<=ts.length)(hT:1<=T/\T<=1073741824)(hp:0<=pl/\pl<T)(hk:∀ t∈ts,0<=t.2.2/\t.2.2<=1073741824)(hu:0<=u/\u<=4611686018427387904)(hnd:0<=nd/\nd<=4096)(hb:0<=b/\b<=1)(hβ:bits .and .i64 β 1=b) :
  Calls prog 160 #[.pointer (some ⟨E,0,none⟩),.int .i64 β] w (bnQ E (.slice a ts.length c) (rd ts) T nd u pl b w):=by
 have HR:Hid (Rob w E (.slice a ts.length c) T nd u pl):=hR;have HP:Hid (Rop w N E a c ts):=hP;have HK:Hid (∀ t∈ts,0<=t.2.2/\t.2.2<=1073741824):=hk;have hfw:=hP.few;obtain⟨c0,c1,c2,c3,c4,fz,lt⟩:=hR;have f2:=fz 2;have f3:=fz 3;clear hP hk fz;go_enter func160,ntmps160;go_wp2;generalize hX:((w.setCell ⟨E,3,none⟩ (.int .i64 (u+1))).setCell ⟨E,2,none⟩ (.int .i64 (2*nd+b))).alloc (.cells #[.slice none 0 0,.int .i64 0] 197)=X;have HRX:Hid (Rob X E (.slice a ts.length c) T (2*nd+b) (u+1) pl):=hX▸((HR.out.s3 (u+1)).s2 (2*nd+b)).alloc _;have HGX:Hid (w.grownBy X (some E)):=hX▸oA (eK (eK (dX w (some E)) 3 _) 2 _) _;have HVX:Hid (Rv X w.heap.size (.slice none 0 0) 0):=hX▸Rv.new _ _ _ _ _ (by simp);clear hX c0 c1 c2 c3 c4 f2 f3 HR hβ;obtain⟨m,hm⟩:=jG (show 0<=2*nd+b by omega);have hm4:m<=8193:=by omega
 rw[hm] at HRX ⊢;have HM:Hid (2*nd+b=(m:Int)):=hm;clear hm
 go_loopw [43] (fun iv wr=>∃ (i:Nat),iv=.int .i64 (i:Int)/\i<=ts.length/\Hid ((uZ T pl (rd (ts.take i))).length<=m)/\Hid (Rob wr E (.slice a ts.length c) T ((m:Int) - (uZ T pl (rd (ts.take i))).length) (u+1) pl)/\Hid (w.grownBy wr (some E))/\Hid (Rv wr w.heap.size (.slice none 0 0) 0)) (fun iv _=>ts.length - (intOf iv).toNat)
 case atStart=>exact⟨0,rfl,nQ _,by simp[Hid,rd,uZ],by simpa [rd,uZ] using HRX,HGX,HVX⟩
 case round =>
  obtain⟨i,rfl,hit,HL,HR,HG,HV⟩:=hrel;obtain⟨q,hq⟩:∃ q,(uZ T pl (rd (ts.take i))).length=q:=⟨_,rfl⟩;have HQ:Hid ((uZ T pl (rd (ts.take i))).length=q):=hq;rw[hq] at HL HR;clear hq;have hqm:q<=m:=HL.out;have hz:w.heap.size+1<=wr.heap.size:=HV.out.lt;by_cases h1:i<ts.length
  ·have HPr:Hid (Rop wr N E a c ts):=HP.out.gb HG.out
   obtain⟨bb,bo,sa,sc,xs,k,rfl,hbN,hbE,hs,d1,d2,hI⟩:=HPr.out.get h1;have HS:Hid (ts[i]? = some (.slice sa xs.length sc,xs,k)):=hs;have hkk:=HK.out _ (uX hs);simp only at hkk;have HI:Hid (zQ wr N E (.slice sa xs.length sc) xs):=hI;clear hs hI;generalize hO:Obj.cells #[Value.slice sa xs.length sc,Value.int IntKind.i64 k] 77=O;have HRO:Hid (Rob (wr.alloc O) E (.slice (some ⟨bb,bo,none⟩) ts.length c) T ((m:Int) - q) (u+1) pl):=HR.out.alloc O;have HVO:Hid (Rv (wr.alloc O) w.heap.size (.slice none 0 0) 0):=HV.out.alloc O;have HSO:Hid (Rv (wr.alloc O) wr.heap.size (.slice sa xs.length sc) k):=hO▸Rv.new _ _ _ _ _ rfl;cases hlf:decide (T<=2*rm T pl k) with
   | false =>
    have kc:=eW E (.slice (some ⟨bb,bo,none⟩) ts.length c) (.slice sa xs.length sc) T ((m:Int) - q) (u+1) pl k (wr.alloc O) HRO.out ⟨_,_,_,rfl⟩ hT hp hkk false hlf;subst hO
    have HQ2:Hid ((uZ T pl (rd (ts.take (i+1)))).length=q):=by
     rw[Hid,aT HS.out,qQ (by simpa using hlf),xD];exact HQ.out
    clear hlf;go_wp2_with fail;refine kc.mono ?_;rintro e w2 ⟨rfl,hb2⟩;have HG2:Hid (w.grownBy w2 (some E)):=cU HG.out (jF (bt (ba _ _) hb2));have HR2:Hid (Rob w2 E (.slice (some ⟨bb,bo,none⟩) ts.length c) T ((m:Int) - q) (u+1) pl):=HRO.out.at hb2;have HV2:Hid (Rv w2 w.heap.size (.slice none 0 0) 0):=HVO.out.below hb2;clear kc;go_wp2
    go_roundw
    case rel=>exact⟨i+1,by go_num,h1,by rw[HQ2.out];exact hqm,by rw[HQ2.out];exact HR2,HG2,HV2⟩
    case measure=>simp[intOf];omega
   | true =>
    have kc:=eW E (.slice (some ⟨bb,bo,none⟩) ts.length c) (.slice sa xs.length sc) T ((m:Int) - q) (u+1) pl k (wr.alloc O) HRO.out ⟨_,_,_,rfl⟩ hT hp hkk true hlf;subst hO
    have HQ2:Hid ((uZ T pl (rd (ts.take (i+1)))).length=q+1):=by
     rw[Hid,aT HS.out,xQ (by simpa using hlf),zJ,HQ.out];rfl
    have HE:Hid ((uZ T pl (rd ts))[q]? = some xs):=by
     have:=bmJ HS.out (by simpa using hlf:T<=2*rm T pl k);rw[HQ.out] at this;exact this
    clear hlf;go_wp2_with fail;refine kc.mono ?_;rintro e w2 ⟨rfl,hb2⟩;have HG2:Hid (w.grownBy w2 (some E)):=cU HG.out (jF (bt (ba _ _) hb2));have HR2:Hid (Rob w2 E (.slice (some ⟨bb,bo,none⟩) ts.length c) T ((m:Int) - q) (u+1) pl):=HRO.out.at hb2;have HV2:Hid (Rv w2 w.heap.size (.slice none 0 0) 0):=HVO.out.below hb2;have HS2:Hid (Rv w2 wr.heap.size (.slice sa xs.length sc) k):=HSO.out.below hb2;have hz2:wr.heap.size+1<=w2.heap.size:=by simpa using hb2.size
    have HI2:Hid (zQ w2 N E (.slice sa xs.length sc) xs):=HI.out.at (by omega) (bt (ba _ _) hb2);clear kc;obtain⟨e0,e1,e2,e3,e4,ez,e5⟩:=id HR2.out;by_cases h3:m=q
    ·subst h3
     have h4:(m:Int) - m=0:=by omega
     rw[h4] at e2;obtain⟨r0,r1,r2,r3,r4⟩:=id HV2.out;obtain⟨g0,g1,g2,g3,g4⟩:=id HS2.out;go_wp2;have eo3:∀ o,(w2.alloc o).cell? ⟨E,3,none⟩=some (.int .i64 (u+1)):=fun o=>(HR2.out.alloc o).c3;have go0:∀ o,(w2.alloc o).cell? ⟨wr.heap.size,0,none⟩=some (.slice sa xs.length sc):=fun o=>(HS2.out.alloc o).c0;have l2:E<w2.heap.size:=e5
     go_region_with (go_at_call 92;refine(eN N E _ xs _ ?_ ?_).mono ?_;(first|(show N<=w2.heap.size;omega)|(simp;omega));(first|exact HI2.out.at (by omega) (aQ _ _).drew|exact HI2.out.at (by omega) (ba _ _).drew|exact HI2.out.at (by omega) ((aQ _ _).drew.alloc (vQ _) _));rintro x3 w3 ⟨v3,rfl,hI3,hb3⟩;obtain⟨av,cv,hv3,_⟩:=hI3 0 (by first|(show 0<w2.heap.size;omega)|(simp));subst hv3;obtain⟨hc3,hf3⟩:=bcell hb3;have l3:E<w3.heap.size:=(qX (by first|exact l2|(simp;omega)) hb3.size);have k1:w3.cell? ⟨E,3,none⟩=some (.int .i64 (u+1)):=(hc3 E 3 (by first|exact l2|(simp;omega))).trans (by first|exact e3|exact eo3 _);have k2:∀ o,(w3.alloc o).cell? ⟨E,3,none⟩=some (.int .i64 (u+1)):=(fun o=>((ba w3 o).cell (p:=⟨E,3,none⟩) l3).trans k1);(first|(have k3:w3.cell? ⟨w2.heap.size,0,none⟩=some (.slice none 0 0):=(hc3 w2.heap.size 0 (by simp)).trans (nc _ _ 0 _ rfl rfl);have k4:w3.cell? ⟨w2.heap.size,1,none⟩=some (.int .i64 0):=(hc3 w2.heap.size 1 (by simp)).trans (nc _ _ 1 _ rfl rfl);have k5:w3.frozen? ⟨w2.heap.size,0,none⟩=false:=(hf3 w2.heap.size 0 (by simp)).trans (nf _ _ 0 rfl);have k6:w3.frozen? ⟨w2.heap.size,1,none⟩=false:=(hf3 w2.heap.size 1 (by simp)).trans (nf _ _ 1 rfl))|skip);clear hc3 hf3)
     all_goals first
      | (have hmark:=k3
         clear hmark;generalize hY:(w3.setCell ⟨w2.heap.size,0,none⟩ (.slice av xs.length cv)).setCell ⟨w2.heap.size,1,none⟩ (.int .i64 (u+1))=Y;have hb32:Below w2.heap.size w2 w3:=(ba w2 (.cells #[.slice none 0 0,.int .i64 0] 197)).drew.trans (hb3.mono (show w2.heap.size<=(w2.alloc (.cells #[.slice none 0 0,.int .i64 0] 197)).heap.size by simp));have hl3:w2.heap.size<w3.heap.size:=by have h:(w2.alloc (.cells #[.slice none 0 0,.int .i64 0] 197)).heap.size<=w3.heap.size:=hb3.size;simp at h;omega
         have hbY:Below w2.heap.size w2 Y:=hY▸((hb32.setCell (p:=⟨w2.heap.size,0,none⟩) (vQ _) _).setCell (p:=⟨w2.heap.size,1,none⟩) (vQ _) _);have HDY:Hid (Rv Y w2.heap.size (.slice av xs.length cv) (u+1)):=hY▸(show Rv w3 w2.heap.size (.slice none 0 0) 0 from ⟨k3,k4,k5,k6,hl3⟩).put _ _
         have HIY:Hid (∀ m,m<w2.heap.size+1->zQ Y Y.heap.size m (.slice av xs.length cv) xs):=by
          have h1:=zQ.setm (zQ.setm (fun m (hm:m<w2.heap.size+1)=>hI3 m (show m<(w2.alloc (.cells #[.slice none 0 0,.int .i64 0] 197)).heap.size by simpa using hm)) w2.heap.size 0 (by omega) (.slice av xs.length cv)) w2.heap.size 1 (by omega) (.int .i64 (u+1));intro m hm;have h2:=h1 m hm;rw[<-hY];simpa using h2
         clear hY k3 k4 k5 k6;generalize hR8:w2.heap.size=R8 at HDY ⊢;have hR9:w2.heap.size<=R8:=by omega)
      | (generalize hY:w3.alloc (.cells #[.slice av xs.length cv,.int .i64 (u+1)] 197)=Y
         have hb32:Below w2.heap.size w2 w3:=(aQ w2.heap.size w2).drew.trans hb3;have hbY:Below w2.heap.size w2 Y:=hY▸bal hb32 _;have HDY:Hid (Rv Y w3.heap.size (.slice av xs.length cv) (u+1)):=hY▸Rv.new _ _ _ _ _ rfl;have HIY:Hid (∀ m,m<w2.heap.size->zQ Y Y.heap.size m (.slice av xs.length cv) xs):=fun m hm=>hY▸(hI3 m hm).at2 (ba _ _);have hl3:w2.heap.size<=w3.heap.size:=hb32.size;clear hY;generalize hR8:w3.heap.size=R8 at HDY ⊢;have hR9:w2.heap.size<=R8:=by omega)
     all_goals
      have HRY:Hid (Rob Y E (.slice (some ⟨bb,bo,none⟩) ts.length c) T ((m:Int) - m) (u+1) pl):=HR2.out.at hbY;have HVY:Hid (Rv Y w.heap.size (.slice none 0 0) 0):=HV2.out.below hbY;have HGY:Hid (w.grownBy Y (some E)):=cU HG2.out (jF hbY);have HFY:Hid (∀ m,m<w.heap.size+1->zQ Y Y.heap.size m (.slice av xs.length cv) xs):=fun m hm=>HIY.out m (by omega);clear hb3 hI3 k1 k2 HIY HR2 HV2 HG2 HS2 e0 e1 e2 e3 e4 ez r0 r1 r2 r3 g0 g1 g2 g3 eo3 go0 hb32 hbY
     all_goals
      have ne1:¬ w.heap.size=E:=by omega
      have ne2:¬ E=w.heap.size:=by omega
      have ne3:¬ R8=E:=by omega
      have ne4:¬ E=R8:=by omega
      have ne5:¬ R8=w.heap.size:=by omega
      have ne6:¬ w.heap.size=R8:=by omega
      have kb:=dW Y;go_wp2_with fail;refine kb.mono ?_;rintro e w4 ⟨rfl,hb4⟩;have HR4:Hid (Rob w4 E (.slice (some ⟨bb,bo,none⟩) ts.length c) T ((m:Int) - m) (u+1) pl):=HRY.out.at hb4;have HV4:Hid (Rv w4 w.heap.size (.slice none 0 0) 0):=HVY.out.below hb4;have HD4:Hid (Rv w4 R8 (.slice av xs.length cv) (u+1)):=HDY.out.below hb4;have HG4:Hid (w.grownBy w4 (some E)):=cU HGY.out (jF hb4);have HF4:Hid (∀ m,m<w.heap.size+1->zQ w4 w4.heap.size m (.slice av xs.length cv) xs):=fun m hm=>(HFY.out m hm).at2 hb4;clear kb hb4 HRY HVY HDY HGY HFY;obtain⟨e0,e1,e2,e3,e4,ez,_⟩:=id HR4.out;obtain⟨r0,r1,r2,r3,_⟩:=id HV4.out;obtain⟨g0,g1,g2,g3,_⟩:=id HD4.out;have y2:=ez 2;have y3:=ez 3;have y4:=ez 4;clear ez;go_wp2;generalize hZ:((((w4.setCell ⟨E,2,none⟩ (.int .i64 0)).setCell ⟨E,3,none⟩ (.int .i64 0)).setCell ⟨E,4,none⟩ (.int .i64 1)).setCell ⟨w.heap.size,0,none⟩ (.slice av xs.length cv)).setCell ⟨w.heap.size,1,none⟩ (.int .i64 (u+1))=Z;have HRZ:Rob Z E (.slice (some ⟨bb,bo,none⟩) ts.length c) T 0 0 1:=hZ▸(((((HR4.out.s2 0).s3 0).s4 1).other w.heap.size 0 (by omega) _).other w.heap.size 1 (by omega) _);have HVZ:Rv Z w.heap.size (.slice av xs.length cv) (u+1):=hZ▸((((HV4.out.other E 2 (by omega) _).other E 3 (by omega) _).other E 4 (by omega) _).put _ _);have HGZ:w.grownBy Z (some E):=hZ▸eI (eI (eK (eK (eK HG4.out 2 _) 3 _) 4 _) (p:=⟨w.heap.size,0,none⟩) (vQ _) _) (p:=⟨w.heap.size,1,none⟩) (vQ _) _
      have HFZ:∀ m,m<w.heap.size+1->zQ Z Z.heap.size m (.slice av xs.length cv) xs:=by
       have h1:=zQ.setm (zQ.setm (zQ.setm (zQ.setm (zQ.setm HF4.out E 2 (by omega) (.int .i64 0)) E 3 (by omega) (.int .i64 0)) E 4 (by omega) (.int .i64 1)) w.heap.size 0 (by omega) (.slice av xs.length cv)) w.heap.size 1 (by omega) (.int .i64 (u+1));intro m hm;have h2:=h1 m hm;rw[<-hZ];simpa using h2
      clear hZ;obtain⟨z0,z1,_,_,_⟩:=HVZ;exact yQ (v:=.tuple #[.agg #[.slice av xs.length cv,.int .i64 (u+1)],.bool true]) (by simp[results,results160,go_sem,z0,z1]) rfl ⟨HGZ,.inr ⟨av,cv,xs,rfl,fun m hm=>HFZ m (by omega),by rw[HM.out,aL];exact HE.out,HRZ⟩⟩
    ·have h4:¬ (m:Int) - q=0:=by omega
     have h4':((m:Int) - q == 0)=false:=by simpa using h4
     have f2:=ez 2;clear ez;go_wp2
     go_roundw
     case rel=>exact⟨i+1,by go_num,h1,by rw[HQ2.out];show q+1<=m;omega,by rw[HQ2.out];exact(HR2.out.s2 ((m:Int) - q - 1)).nd (by omega),eK HG2.out 2 _,HV2.out.other E 2 (by omega) _⟩
     case measure=>simp[intOf];omega
  ·have HQ2:Hid ((uZ T pl (rd ts)).length=q):=by have:=HQ.out;rwa [fV (by omega)] at this
   have HN:Hid ((uZ T pl (rd ts))[(2*nd+b).toNat]? = none):=by
    rw[Hid,HM.out,aL];exact uL (by rw[HQ2.out];exact hqm)
   obtain⟨e0,e1,e2,e3,e4,ez,_⟩:=id HR.out;obtain⟨r0,r1,r2,r3,_⟩:=id HV.out;have y4:=ez 4;have hT0:¬ T=0:=by omega
   have ne1:¬ w.heap.size=E:=by omega
   have ne2:¬ E=w.heap.size:=by omega
   obtain⟨M,hM⟩:∃ M,2*pl % T=M:=⟨_,rfl⟩;have hM2:0<=M/\M<T:=by rw[<-hM];exact⟨Int.emod_nonneg _ (by omega),Int.emod_lt_of_pos _ (by omega)⟩
   have HMM:Hid (2*pl % T=M):=hM;clear ez;go_wp2
   go_region
   generalize hX:(wr.setCell ⟨E,4,none⟩ (.int .i64 M)).drew=X2;have HRX2:Hid (Rob X2 E (.slice a ts.length c) T ((m:Int) - q) (u+1) M):=hX▸(HR.out.s4 M).drew;have HVX2:Hid (Rv X2 w.heap.size (.slice none 0 0) 0):=hX▸(HV.out.other E 4 (by omega) _).drew;have HGX2:Hid (w.grownBy X2 (some E)):=hX▸fJ (eK HG.out 4 _);clear hX hM e0 e1 e2 e3 e4 r0 r1 r2 r3 y4;obtain⟨r0,r1,r2,r3,_⟩:=id HVX2.out;have HVZ:=HVX2.out.put (.slice none 0 0) 0;go_wp2;obtain⟨z0,z1,_,_,_⟩:=HVZ
   exact yQ (v:=.tuple #[nH,.bool false]) (by simp[results,results160,go_sem,z0,z1]) rfl
    ⟨eI (eI HGX2.out (p:=⟨w.heap.size,0,none⟩) (vQ _) _) (p:=⟨w.heap.size,1,none⟩) (vQ _) _,.inl ⟨rfl,HN.out,by
     rw[HMM.out,HQ2.out,HM.out];exact(HRX2.out.other w.heap.size 0 (by omega) _).other w.heap.size 1 (by omega) _⟩⟩
theorem xX.elem {w wr:World}{B:Nat}{v:Value}{ts:List Tr}(h:xX w B v ts)(hB:B<=w.heap.size)(hb:Below w.heap.size w wr){t:Tr}(ht:t∈ts):zQ wr B B t.1 t.2.1:=by
 obtain⟨_,_,_,_,_,hI,_⟩:=h;exact(hI t ht).at hB hb
def slen:Value->Nat
 | .slice _ n _=>n
 | _=>0
theorem fK {w w':World}{base:Nat}{e:TypeId}{size:Nat}{v:Value}{n:Nat}{xs:List Value}(h:w.ownsRow base e size v n xs)(hb:Below w.heap.size w w'):w'.ownsRow base e size v n xs:=by
 obtain⟨h1,h2⟩:=h;refine⟨h1,?_⟩;rcases h2 with h2|⟨g,cap,cur,hv,hg,hcur,h3⟩
 ·exact .inl h2
 ·exact .inr ⟨g,cap,cur,hv,hg,by rw[hb.block g (jU.1 hcur).1];exact hcur,h3⟩
theorem zP {w:World}{base:Nat}{e:TypeId}{size:Nat}{v:Value}{n:Nat}{xs:List Value}(h:w.ownsRow base e size v n xs):∀ k,v.ownBlock=some k->base<=k:=by
 intro k hk;obtain⟨_,⟨rfl,_⟩|⟨g,cap,cur,rfl,hg,_⟩⟩:=h
 ·simp[Value.ownBlock] at hk
 ·simp[Value.ownBlock] at hk;omega
theorem mL {w:World}{base:Nat}{e:TypeId}{size:Nat}{v:Value}{n:Nat}{xs:List Value}(h:w.ownsRow base e size v n xs):∃ a c,v=.slice a n c:=by
 obtain⟨_,⟨rfl,rfl⟩|⟨g,cap,cur,rfl,_⟩⟩:=h
 ·exact⟨_,_,rfl⟩
 ·exact⟨_,_,rfl⟩
theorem fW (ds:List Tr)(v:Value)(xs:List Int)(k:Int):flat ds++[v,.int .i64 k]=flat (ds++[(v,xs,k)]):=by simp[flat]
def iQ (w:World) (lo:Nat) (v:Value) (ds:List Tr):Prop :=
 w.ownsRow lo 77 2 v ds.length (flat ds)/\∀ t∈ds,∃ m,zQ w w.heap.size m t.1 t.2.1/\∀ g,v.ownBlock=some g->m=g
theorem iQ.nil (w:World)(lo:Nat):iQ w lo (.slice none 0 0) []:=⟨⟨rfl,.inl ⟨rfl,rfl⟩⟩,fun t ht=>by cases ht⟩
theorem iQ.keep {w w':World}{lo:Nat}{v:Value}{ds:List Tr}(h:iQ w lo v ds)(hb:Below w.heap.size w w'):iQ w' lo v ds :=
 ⟨fK h.1 hb,fun t ht=>let ⟨m,h1,h2⟩:=h.2 t ht;⟨m,h1.at2 hb,h2⟩⟩
theorem iQ.slice {w:World}{lo:Nat}{v:Value}{ds:List Tr}(h:iQ w lo v ds):∃ a c,v=.slice a ds.length c:=mL h.1
theorem iQ.lt {w:World}{lo:Nat}{v:Value}{ds:List Tr}(h:iQ w lo v ds):∀ g,v.ownBlock=some g->lo<=g/\g<w.heap.size:=h.1.lt
theorem zQ.grow {W w':World}{B m m':Nat}{s:Value}{xs:List Int}{row:Option Nat}(h:zQ W B m s xs)(hg:W.grownBy w' row)(hB:B<=W.heap.size)(hrow:∀ g,row=some g->m=g)(hm:m' = m\/B<=m'):zQ w' w'.heap.size m' s xs:=by
 obtain⟨a,c,hv,hc,hl,hx⟩:=h;refine⟨a,c,hv,hc,hl,fun hne=>?_⟩;obtain⟨b,o,ha,hb,hn,hcell⟩:=hx hne;have:=hg.size;refine⟨b,o,ha,by omega,by rcases hm with h|h <;> omega,fun i x hi=>?_⟩;refine hg.cell (hcell i x hi) fun e=>hn ?_;exact(hrow b e.symm).symm
theorem iQ.app {W w':World}{lo:Nat}{v v' s:Value}{ds:List Tr}{xs:List Int}{k:Int}{m:Nat}(h:iQ W lo v ds)(hown:w'.ownsRow lo 77 2 v' (ds.length+1) (flat ds++[s,.int .i64 k]))(hg:W.grownBy w' v.ownBlock)
  (hat:v'.ownBlock=v.ownBlock\/v'.ownBlock=some W.heap.size) (hi:zQ W W.heap.size m s xs) (hm:∀ g,v.ownBlock=some g->m=g):iQ w' lo v' (ds++[(s,xs,k)]):=by
 refine⟨by rw[<-fW];simpa using hown,fun t ht=>?_⟩
 have key:∀ (m:Nat) (s:Value) (xs:List Int),zQ W W.heap.size m s xs->(∀ g,v.ownBlock=some g->m=g)->∃ m',zQ w' w'.heap.size m' s xs/\∀ g,v'.ownBlock=some g->m' = g:=by
  intro m s xs h1 h2;rcases hat with hat|hat
  ·exact⟨m,h1.grow hg (vQ _) h2 (.inl rfl),by rw[hat];exact h2⟩
  ·exact⟨W.heap.size,h1.grow hg (vQ _) h2 (.inr (vQ _)),by rw[hat];intro g e;simpa using e⟩
 rcases zY.1 ht with ht|ht
 ·obtain⟨m,h1,h2⟩:=h.2 t ht
  exact key m t.1 t.2.1 h1 h2
 ·obtain rfl:t=(s,xs,k):=by simpa using ht
  exact key m s xs hi hm
theorem iQ.parts {w:World}{lo:Nat}{v:Value}{ds:List Tr}(h:iQ w lo v ds)(hl:ds.length<=1073741824):xX w w.heap.size v ds:=by
 have hi:∀ t∈ds,zQ w w.heap.size w.heap.size t.1 t.2.1:=fun t ht=>let ⟨m,h1,_⟩:=h.2 t ht;h1.mono (vQ _) (.inr (vQ _));by_cases hv:v=.slice none 0 0
 ·subst hv
  have h0:ds=[]:=by
   obtain⟨_,⟨_,h0⟩|⟨g,cap,cur,hv,_⟩⟩:=h.1
   ·exact xK.1 h0
   ·cases hv
  subst h0;exact lH w _
 ·obtain⟨g,cap,rfl,hcap,hgb,hrow⟩:=sS rfl h.1 hv
  exact⟨_,cap,rfl,hcap,hl,hi,fun _=>⟨g,0,rfl,hrow.lt,hrow.cells⟩⟩
theorem gW (B:Nat)(v:Value)(ts:List Tr)(w:World)(hB:B<=w.heap.size)(hx:xX w B v ts) :
  Calls prog 141 #[v] w fun e w'=>∃ v',e=.returned v'/\Below w.heap.size w w' /\
   ((ts=[]/\v' = .slice none 0 0)\/∃ g cap,v' = .slice (some ⟨g,0,none⟩) ts.length cap/\ts.length<=cap/\w.heap.size<=g/\Row w' g 0 ts):=by
 obtain⟨a,c,rfl,hc,hl,hI,hxx⟩:=hx;have q23:∀ (w:World) (a:Option Addr) (n c n' c':Nat),(binOp .eql 61 (.slice a n c) (.slice none n' c')).run prog w=.ok (.bool a.isNone) w:=fun w a n c n' c'=>uN w _ _ a n c n' c' underlying61;cases a with
 | none =>
  obtain rfl:ts=[]:=by
   cases ts with
   | nil=>rfl
   | cons x l=>obtain⟨b,o,h,_⟩:=hxx (by simp);cases h
  clear hxx hI;go_enter func141,ntmps141;go_wp2;go_ret;exact⟨_,rfl,aQ _ _,by simp⟩
 | some ad =>
  have A:Hid (∀ j u,(flat ts)[j]? = some u->∀ o,(w.alloc o).cell? (ad.add j)=some u):=by
   intro j u hj o;have hlt:j<ts.length*2:=by rw[<-dI];exact(lQ.1 hj).1
   obtain⟨b,o',he,hb,hcell⟩:=hxx (by rintro rfl;simp at hlt);simp only[vX] at he;subst he;rw[iA,gH _ _ _ (by simp;omega)];exact rS hcell j u hj
  have A1:Hid (∀ u∈flat ts,u.oneCell' = true):=by
   intro u hu;obtain⟨t,ht,hu⟩:=pM.1 hu;obtain⟨sa,sc,he,_⟩:=hI t ht;simp only[yX,jJ,vJ] at hu;rcases hu with rfl|rfl
   ·rw[he];rfl
   ·rfl
  obtain⟨i0,hi,hz0,hz1,hz2⟩:=oY cN;clear hxx hI;have hnb:Hid (ts.length*32<=140737488355328/\ts.length<=maxLen):=⟨by omega,by simp[maxLen];omega⟩;go_enter func141,ntmps141;go_wp2_with (at_builtin;refine vK _ rfl _ _ 61 rfl w.heap.size 77 i0 (.agg #[.slice none 0 0,.int .i64 0]) 2 32 underlying61 hi hz0 hz1 hz2 rfl (by decide) _ _ _ rfl (aN w #[] 0 (vQ _) (nQ _) (by simp)) ad ts.length c (flat ts) rfl ?qc1 ?qc2 ?qc3 ?qc4 ?qc5 ?qc6 ?_)
  case qc1=>exact dI ts
  case qc2=>intro j u hj;exact A.out j u hj _
  case qc3=>exact A1.out
  case qc4=>rw[jZ];exact hnb.out.2
  case qc5=>rw[jZ];exact hnb.out.1
  case qc6=>simp
  intro v' w1 hown hgrow hnil;go_wp2;go_ret;refine⟨v',rfl,?_,.inr ?_⟩
  ·exact((aQ _ w).alloc (vQ _) _).grown hgrow (by simp) (by intro k hk;simp[Value.ownBlock] at hk;omega)
  ·exact sS (jZ _) (by simpa using hown) hnil
theorem fI (B:Nat)(v:Value)(ts:List Tr)(w:World)(hB:B<=w.heap.size)(hp:xX w B v ts)(er:Int)(hr:(bU (rd ts)).2=er) :
  Calls prog 154 #[v] w fun e w'=>e=.returned (.int .i64 er)/\Below w.heap.size w w':=by
 have kc:=bjQ B v ts w hB hp (bU (rd ts)).1 er (by rw[<-hr]);obtain⟨a,c,rfl,hc,hl,_⟩:=hp;clear hr;go_enter func154,ntmps154;go_wp2_with fail;refine kc.mono ?_;rintro e w1 ⟨v1,us,rfl,hrd,ho,hb1⟩;obtain⟨a1,c1,rfl⟩:=ho.slice;clear ho hrd kc;go_wp2;go_ret;exact⟨rfl,hb1⟩
def gG (l:List Pt):Option (List Int):=match l with
 | [p]=>some p.1
 | _=>none
theorem bnZ {l:List Pt}{p:Pt}(h:l[0]? = some p)(h1:l.length=1):gG l=some p.1:=by
 match l,h1,h with
 | [q],_,h=>simp at h;subst h;rfl
theorem bnJ {l:List Pt}(h1:l.length≠1):gG l=none:=by
 match l,h1 with
 | [],_=>rfl
 | _::_::_,_=>rfl
theorem boQ (N E:Nat)(a:Option Addr)(c:Nat)(ts:List Tr)(T nd u pl:Int)(w:World)(h:Rob w E (.slice a ts.length c) T nd u pl)(hP:Rop w N E a c ts)(hN:N<=w.heap.size) :
  Calls prog 159 #[.pointer (some ⟨E,0,none⟩)] w (aW (gG (rd ts)) w):=by
 have H:Hid (Rob w E (.slice a ts.length c) T nd u pl):=h;have HP:Hid (Rop w N E a c ts):=hP;obtain⟨c0,_,_,_,_,_,lt⟩:=h;have hfw:=hP.few;clear hP;by_cases h1:ts.length=1
 ·obtain⟨bb,bo,sa,sc,xs,k,rfl,hbN,hbE,hs,d1,d2,hI⟩:=HP.out.get (i:=0) (by omega)
  have HS:Hid (gG (rd ts)=some xs):=bnZ (aU hs) (by rw[fG,h1]);have HI:Hid (zQ w N E (.slice sa xs.length sc) xs):=hI;simp only[Nat.zero_mul,xN] at d1;rw[h1] at c0;have hc1:1<=c:=by have:=HP.out.cap;omega
  have HV:Hid (Rv (w.alloc (.cells #[.slice none 0 0,.int .i64 0] 197)) w.heap.size (.slice none 0 0) 0):=Rv.new _ _ _ _ _ rfl;have hb0:Below w.heap.size w (w.alloc (.cells #[.slice none 0 0,.int .i64 0] 197)):=ba _ _;have kc:=eN N E (.slice sa xs.length sc) xs (w.alloc (.cells #[.slice none 0 0,.int .i64 0] 197)) (by simp;omega) (HI.out.at hN hb0);have d3:∀ o,(w.alloc o).cell? ⟨bb,bo,none⟩=some (.slice sa xs.length sc):=fun o=>((ba w o).cell (p:=⟨bb,bo,none⟩) (show bb<w.heap.size by omega)).trans d1;clear hs hI h1;go_enter func159,ntmps159;go_wp2_with fail;refine kc.mono ?_;rintro e w1 ⟨v1,rfl,hI1,hb1⟩;obtain⟨av,cv,rfl,_⟩:=hI1 w.heap.size (by simp);have HV1:Hid (Rv w1 w.heap.size (.slice none 0 0) 0):=HV.out.below hb1;have HI1:Hid (∀ m,m<w.heap.size+1->zQ w1 w1.heap.size m (.slice av xs.length cv) xs):=fun m hm=>hI1 m (by simpa using hm);have hbw:Below w.heap.size w w1:=bt hb0 hb1;clear kc hI1 hb1;obtain⟨r0,r1,r2,r3,r4⟩:=id HV1.out;go_wp2;generalize hZ:(w1.setCell ⟨w.heap.size,0,none⟩ (.slice av xs.length cv)).setCell ⟨w.heap.size,1,none⟩ (.int .i64 0)=Z;have hbZ:Below w.heap.size w Z:=hZ▸bs (bs hbw (p:=⟨w.heap.size,0,none⟩) (vQ _) _) (p:=⟨w.heap.size,1,none⟩) (vQ _) _;have HVZ:Rv Z w.heap.size (.slice av xs.length cv) 0:=hZ▸HV1.out.put _ _
  have HFZ:∀ m,m<w.heap.size+1->zQ Z Z.heap.size m (.slice av xs.length cv) xs:=by
   have h1:=zQ.setm (zQ.setm HI1.out w.heap.size 0 (by omega) (.slice av xs.length cv)) w.heap.size 1 (by omega) (.int .i64 0);intro m hm;have h2:=h1 m hm;rw[<-hZ];simpa using h2
  clear hZ;obtain⟨z0,z1,_,_,_⟩:=HVZ;refine yQ (v:=.tuple #[.agg #[.slice av xs.length cv,.int .i64 0],.bool true]) (by simp[results,results159,go_sem,z0,z1]) rfl ⟨hbZ,fun hh=>?_,fun o ho=>?_⟩
  ·rw[HS.out] at hh;cases hh
  ·rw[HS.out] at ho
   simp only[vX] at ho;subst ho;exact⟨av,cv,rfl,fun m hm=>HFZ m (by omega)⟩
 ·have HS:Hid (gG (rd ts)=none):=bnJ (by rw[fG];exact h1)
  have h1':((ts.length:Int) == 1)=false:=by simp;omega
  have h1'':¬ (ts.length:Int)=1:=by omega
  go_enter func159,ntmps159;go_wp2;refine yQ (v:=.tuple #[nH,.bool false]) (by simp[results,results159,go_sem]) rfl ⟨ba _ _,fun _=>rfl,fun o ho=>?_⟩;rw[HS.out] at ho;cases ho
