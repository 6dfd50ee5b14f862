import Derived.Test.YtpmioeamdhdokaaGreatQq08
import Derived.RangeFuncNested
import Derived.RangeFuncBound
import Derived.RangeFuncCalls
import Derived.RangeFuncLeaves
import Derived.Shelf.Abstract
import Derived.Shelf.RegionOpen
import Derived.OwnWalkIn
import Derived.TacticsInMore
import Derived.LoopNIn
import Derived.LoopIn
open Go.Proofs.Tryz
set_option linter.unusedSimpArgs false
set_option maxHeartbeats 16000000
set_option maxRecDepth 100000
namespace Go.Proofs.YtpmioeamdhdokaaGreat
variable {W w w':World} {B E N base c lo' m n nb:Nat} {v:Value} {bits o r xs:List Int} {T k u:Int} {a:Option Addr}
section
open Go.RowKit Ds
theorem cnQ {ts:List Tr}(hn:n=ts.length)(h:w.ownsRow base 162 2 v n (flat ts))(hne:v≠.slice none 0 0) :
  ∃ g cap,v=.slice (some ⟨g,0,none⟩) ts.length cap/\ts.length<=cap/\base<=g/\Row w g 0 ts:=by
 subst hn;obtain⟨_,⟨hv,_⟩|⟨g,cap,cur,hv,hb,hcur,hc,_,hsz,hx⟩⟩:=h
 ·exact absurd hv hne
 ·have hget:∀ j u,(flat ts)[j]? = some u->w.cell? ⟨g,0+j,none⟩=some u:=by
   intro j u hj;have hj2:j<ts.length*2:=by rw[<-aL];exact(cQ.1 hj).1
   have:cur[j]? = some u:=by
    rw[<-hx,xI hj2] at hj;simpa using hj
   simp[World.cell?,hcur,this]
  refine⟨g,cap,hv,hc,hb,⟨fun i t ht=>?_,fun j _=>qR hcur,(zJ.1 hcur).1⟩⟩;have hg:=bW ts i;exact⟨hget _ _ (by rw[hg.1,ht];rfl),by rw[zV];exact hget _ _ (by rw[hg.2,ht];rfl)⟩
def tY (w:World) (lo:Nat) (v:Value) (ds:List Tr):Prop :=
 w.ownsRow lo 162 2 v ds.length (flat ds)/\∀ t∈ds,∃ m,jQ w w.heap.size m t.1 t.2.1/\∀ g,v.ownBlock=some g->m=g
theorem tY.nil (w:World)(lo:Nat):tY w lo (.slice none 0 0) []:=⟨⟨rfl,.inl ⟨rfl,rfl⟩⟩,fun t ht=>by cases ht⟩
theorem tY.keep {lo:Nat}{ds:List Tr}(h:tY w lo v ds)(hb:Below w.heap.size w w'):tY w' lo v ds :=
 ⟨cL h.1 hb,fun t ht=>let ⟨m,h1,h2⟩:=h.2 t ht;⟨m,h1.at2 hb,h2⟩⟩
theorem tY.slice {lo:Nat}{ds:List Tr}(h:tY w lo v ds):∃ a c,v=.slice a ds.length c:=bF h.1
theorem tY.lt {lo:Nat}{ds:List Tr}(h:tY w lo v ds):∀ g,v.ownBlock=some g->lo<=g/\g<w.heap.size:=h.1.lt
theorem tY.app {lo:Nat}{v' s:Value}{ds:List Tr}(h:tY W lo v ds)(hown:w'.ownsRow lo 162 2 v' (ds.length+1) (flat ds++[s,.int .i64 k]))(hg:W.grownBy w' v.ownBlock)
  (hat:v'.ownBlock=v.ownBlock\/v'.ownBlock=some W.heap.size) (hi:jQ W W.heap.size m s xs) (hm:∀ g,v.ownBlock=some g->m=g):tY w' lo v' (ds++[(s,xs,k)]):=by
 refine⟨by rw[<-avZ];simpa using hown,fun t ht=>?_⟩
 have key:∀ (m:Nat) (s:Value) (xs:List Int),jQ W W.heap.size m s xs->(∀ g,v.ownBlock=some g->m=g)->∃ m',jQ w' w'.heap.size m' s xs/\∀ g,v'.ownBlock=some g->m' = g:=by
  intro m s xs h1 h2;rcases hat with hat|hat
  ·exact⟨m,h1.grow hg (vQ _) h2 (.inl rfl),by rw[hat];exact h2⟩
  ·exact⟨W.heap.size,h1.grow hg (vQ _) h2 (.inr (vQ _)),by rw[hat];intro g e;simpa using e⟩
 rcases gV.1 ht with ht|ht
 ·obtain⟨m,h1,h2⟩:=h.2 t ht
  exact key m t.1 t.2.1 h1 h2
 ·obtain rfl:t=(s,xs,k):=by simpa using ht
  exact key m s xs hi hm
theorem tY.parts {lo:Nat}{ds:List Tr}(h:tY w lo v ds)(hl:ds.length<=1073741824):fQ w w.heap.size v ds:=by
 have hi:∀ t∈ds,jQ w w.heap.size w.heap.size t.1 t.2.1:=fun t ht=>let ⟨m,h1,_⟩:=h.2 t ht;h1.mono (vQ _) (.inr (vQ _));by_cases hv:v=.slice none 0 0
 ·subst hv
  have h0:ds=[]:=by
   obtain⟨_,⟨_,h0⟩|⟨g,cap,cur,hv,_⟩⟩:=h.1
   ·exact xH.1 h0
   ·cases hv
  subst h0;exact bK w _
 ·obtain⟨g,cap,rfl,hcap,hgb,hrow⟩:=cnQ rfl h.1 hv
  exact⟨_,cap,rfl,hcap,hl,hi,fun _=>⟨g,0,rfl,hrow.lt,hrow.cells⟩⟩
theorem cnX:(prog.info? 162).map (fun i=>(i.zero,i.size,i.bytes))=some (some (.agg #[.slice none 0 0,.int .i64 0]),2,32):=by kernel_rfl
theorem tY.gb {lo:Nat}{ds:List Tr}(h:tY w lo v ds)(hg:w.grownBy w' (some E))(hE:E<lo)(hf:sQ lo ds):tY w' lo v ds:=by
 refine⟨h.1.kept hg ?_,fun t ht=>?_⟩
 ·cases e:v.ownBlock with
  | none=>exact .inl rfl
  | some g=>exact .inr (by have:=(h.lt g e).1;simp;omega)
 ·obtain⟨m,⟨a,c,hv,hc,hl,hx⟩,h2⟩:=h.2 t ht
  refine⟨m,⟨a,c,hv,hc,hl,fun hne=>?_⟩,h2⟩;obtain⟨b,o,ha,hb,hn,hcell⟩:=hx hne;have:=hf t ht hne b o none t.2.1.length c (by rw[hv,ha]);have:=hg.size;exact⟨b,o,ha,by omega,hn,fun i x hi=>hg.cell (hcell i x hi) (by simp;omega)⟩
theorem sQ.snoc {lo:Nat}{ds:List Tr}{t:Tr}(h:sQ lo ds)(ht:t.2.1≠[]->∀ b o sp n c,t.1=.slice (some ⟨b,o,sp⟩) n c->lo<=b):sQ lo (ds++[t]):=by
 intro u hu;rcases gV.1 hu with h1|h1
 ·exact h u h1
 ·obtain rfl:u=t:=by simpa using h1
  exact ht
theorem cnZ (h:∀ g,v.ownBlock=some g->g<n)(hn:0<n):∃ m,m<n/\∀ g,v.ownBlock=some g->m=g:=by
 cases e:v.ownBlock with
 | none=>exact⟨0,hn,fun g e=>by cases e⟩
 | some g=>exact⟨g,h g e,fun g' e=>by simpa using e⟩
def cI (nx:Nx) (bits:List Int) (times:Int):List Pt × Int:=if xA bits times=0 then (cH nx times.toNat bits,0) else ([],xA bits times)
def lG (lo:Nat) (v:Value) (ds:List Tr):Prop:=(∀ g,v.ownBlock=some g->lo<=g)/\sQ lo ds
theorem lG.nil (lo:Nat):lG lo (.slice none 0 0) []:=⟨fun g h=>by simp[Value.ownBlock] at h,sQ.nil lo⟩
theorem lG.mono {lo:Nat}{ds:List Tr}(h:lG lo v ds)(hl:lo'<=lo):lG lo' v ds:=⟨fun g e=>bQ hl (h.1 g e),h.2.mono hl⟩
def cnJ (E:Nat) (l:List Pt) (er:Int) (w:World) (e:Ending) (w':World):Prop :=
 ∃ v' ds,e=.returned (.tuple #[v',.int .i64 er])/\rd ds=l/\fQ w' w'.heap.size v' ds/\w.grownBy w' (some E)/\lG w.heap.size v' ds
def yZ (l:List Pt) (er:Int) (w:World) (e:Ending) (w':World):Prop :=
 ∃ v' ds,e=.returned (.tuple #[v',.int .i64 er])/\rd ds=l/\fQ w' w'.heap.size v' ds/\Below w.heap.size w w'/\lG w.heap.size v' ds
def cF (b:Int):Bool:=decide (b=0\/b=1)
theorem oT (l:List Int):aY l = !l.all cF:=by
 rw[aY,List.not_all_eq_any_not];congr 1;funext b;simp[cF]
theorem awQ (n:Int)(w:World):Calls prog 188 #[.int .i64 n] w fun e w'=>e=.returned (.bool (!cF n))/\w' = w:=by
 unfold cF;by_cases h1:n=0
 ·subst h1
  rw[xG (by omega)];go_enter func188,ntmps188;go_wp2;go_ret;exact⟨rfl,rfl⟩
 ·have h1':(n == 0)=false:=by simpa using h1
  by_cases h2:n=1
  ·subst h2
   rw[xG (by omega)];go_enter func188,ntmps188;go_wp2;go_ret;exact⟨rfl,rfl⟩
  ·have h2':(n == 1)=false:=by simpa using h2
   rw[oV (by omega)];go_enter func188,ntmps188;go_wp2;go_ret;exact⟨by show Ending.returned (.bool (n != 0 && n != 1))=_;simp[h1,h2],rfl⟩
theorem coQ (B nb:Nat)(v:Value)(x:List Int)(w:World)(hx:jQ w B nb v x) :
  Calls prog 231 #[v,.func (.func 188) #[] #[]] w fun e w'=>∃ r:Int,e=.returned (.int .i64 r)/\(decide (0<=r) = !x.all cF)/\w' = w:=by
 obtain⟨a,c,rfl,hc,hl,hxx⟩:=hx;have HX:=qQ hxx;clear hxx;go_enter func231,ntmps231;go_wp2
 go_loop [8] (fun s=>∃ i:Nat,s=.int .i64 (i:Int)/\i<=x.length/\(x.take i).all cF=true) (fun s=>x.length - (intOf s).toNat)
 case atStart=>exact⟨0,rfl,kQ _,by simp⟩
 case round =>
  obtain⟨i,rfl,hix,hall⟩:=hrel;have HA:=qQ hall;clear hall;by_cases h1:i<x.length
  ·obtain⟨b,o,rfl,hb,hn,hcell⟩:=HX.out (ne_of_lt h1)
   obtain⟨z,hz⟩:=cX h1;have cx1:=hcell i z hz;have HZ:=qQ hz;clear hcell HX hz;cases hk:cF z with
   | true =>
    have hk':=qQ hk;clear hk;have kc:=awQ z w;rw[hk'.out] at kc;go_wp2_with (go_at_call 188;refine kc.mono ?_;rintro e w' ⟨rfl,rfl⟩)
    go_round
    case rel=>exact⟨i+1,by go_num,h1,by rw[tP HZ.out,HA.out,hk'.out];rfl⟩
    case measure=>simp[intOf];omega
   | false =>
    have hk':=qQ hk;clear hk;have kc:=awQ z w;rw[hk'.out] at kc;go_wp2_with (go_at_call 188;refine kc.mono ?_;rintro e w' ⟨rfl,rfl⟩);go_ret;exact⟨_,rfl,by rw[dT HZ.out hk'.out];simp,rfl⟩
  ·have hi:i=x.length:=by omega
   have hA:x.all cF=true:=by have:=HA.out;rw[hi,wD] at this;exact this
   have HA2:=qQ hA;clear hA HX;go_wp2;go_ret;exact⟨_,rfl,by rw[HA2.out];simp,rfl⟩
theorem awX (B nb:Nat)(v:Value)(x:List Int)(w:World)(hx:jQ w B nb v x)(r:Bool)(hr:x.all cF=r) :
  Calls prog 187 #[v,.func (.func 188) #[] #[]] w fun e w'=>e=.returned (.bool (!r))/\w' = w:=by
 subst hr;have HX:=qQ hx;obtain⟨a,c,rfl,_⟩:=hx;go_enter func187,ntmps187;go_wp2_with (go_at_call 231;refine(coQ B nb _ x _ HX.out).mono ?_;rintro e w' ⟨r,rfl,hr,rfl⟩);go_ret;exact⟨uI (by rw[<-hr]),rfl⟩
theorem coX (B N E:Nat){S:Type}(St:World->S->Prop)(go:S->Nx)(us:S->Int)(s0:S)(sur:Option (List Int))(D:Drw N E 191 190 St go us s0 sur)(v:Value)(bits:List Int)(w:World)(hB:B<=N)(hN:N<=w.heap.size)(hs:St w s0)(hv:jQ w B E v bits)(hbad:aY bits=false)(hlen:bits.length<=65536) :
  Calls prog 189 #[.iface 211 (.pointer (some ⟨E,0,none⟩)),v] w (ckZ B E St (eH go s0 sur) s0 bits w):=by
 have hm1 : ∀ w : World, (method 481 211 (.pointer (some ⟨E, 0, none⟩)) "Sure").run prog w = .ok (190, .pointer (some ⟨E, 0, none⟩)) w := fun _ => by kernel_rfl
 have hm2 : ∀ w : World, (method 481 211 (.pointer (some ⟨E, 0, none⟩)) "Feed").run prog w = .ok (191, .pointer (some ⟨E, 0, none⟩)) w := fun _ => by kernel_rfl
 have HV:=qQ hv;have HD:=qQ D;have HS:=qQ hs;have HBad:=qQ hbad;have lt:=D.lt;obtain⟨a,c,rfl,hc,hl,_⟩:=hv;have hb0:Below w.heap.size w (w.alloc (.cells #[.slice none 0 0,.int .i64 0] 162)):=ba _ _;have kc:=D.sure (w.alloc (.cells #[.slice none 0 0,.int .i64 0] 162)) s0 (D.keep hs (hb0.mono hN) hN) (by simp;omega);have HR0:Hid (Rv (w.alloc (.cells #[.slice none 0 0,.int .i64 0] 162)) w.heap.size (.slice none 0 0) 0):=Rv.new _ _ _ _ _ rfl;clear D hs hbad hb0;go_enter func189,ntmps189;go_wp2_with fail;refine kc.mono ?_;rintro e w1 ⟨hb1,hs0,hs1⟩;clear kc;have hz1:w.heap.size+1<=w1.heap.size:=by simpa using hb1.size
 have HR:=qQ (HR0.out.below hb1);have HG:Hid (w.grownBy w1 (some E)):=dH (bt (ba _ _) hb1);cases hsur:sur with
 | some o =>
  obtain⟨sa,sc,rfl,hI⟩:=hs1 o hsur;have HI:Hid (∀ m,m<w.heap.size+1->jQ w1 w1.heap.size m (.slice sa o.length sc) o):=fun m hm=>hI m (by simpa using hm);have HS1:=qQ (HD.out.keep HS.out ((bt (ba _ _) hb1).mono hN) hN);clear hs0 hs1 hI;subst hsur;obtain⟨r0,r1,r2,r3,r4⟩:=HR.out;have ne1:¬ w.heap.size=w1.heap.size:=by omega
  go_wp2;generalize hX:((w1.setCell ⟨w.heap.size,0,none⟩ (.slice sa o.length sc)).setCell ⟨w.heap.size,1,none⟩ (.int .i64 0)).alloc (.cells #[.slice sa o.length sc,.int .i64 0] 162)=X;have hbX:Below w.heap.size w X:=hX▸bal (bs (bs (bt (ba _ _) hb1) (p:=⟨w.heap.size,0,none⟩) (vQ _) _) (p:=⟨w.heap.size,1,none⟩) (vQ _) _) _;have HRX:Rv X w.heap.size (.slice sa o.length sc) 0:=hX▸((HR.out.put _ _).alloc _)
  have HIX:Hid (∀ m,m<w.heap.size+1->jQ X X.heap.size m (.slice sa o.length sc) o):=by
   have h1:=jQ.setm (jQ.setm HI.out w.heap.size 0 (by omega) (.slice sa o.length sc)) w.heap.size 1 (by omega) (.int .i64 0);intro m hm;have h2:=h1 m hm;rw[show w1.heap.size=((w1.setCell ⟨w.heap.size,0,none⟩ (.slice sa o.length sc)).setCell ⟨w.heap.size,1,none⟩ (.int .i64 0)).heap.size by simp] at h2;rw[<-hX];exact(h2.keep (ba _ _)).mono (by simp) (.inl rfl)
  have HVX:=qQ (HV.out.at (by omega) hbX);have HSX:=qQ (HD.out.keep HS.out (hbX.mono hN) hN);clear hX;obtain⟨x0,x1,_,_,_⟩:=HRX;refine uQ (v:=.tuple #[.agg #[.slice sa o.length sc,.int .i64 0],.slice a bits.length c,.bool true]) (by simp[results,results189,go_sem,x0,x1]) rfl ⟨dH hbX,.inr ⟨sa,sc,o,0,a,c,0,rfl,rfl,fun m hm=>HIX.out m (by omega),HVX.out,HSX.out⟩⟩
 | none =>
  have he:=hs0 hsur;subst he;subst hsur;have HS1:=qQ (HD.out.keep HS.out ((bt (ba _ _) hb1).mono hN) hN);clear hs0 hs1;obtain⟨r0,r1,r2,r3,r4⟩:=HR.out;go_wp2;generalize hX:w1.alloc (.cells #[.slice none 0 0,.int .i64 0] 162)=X;have hbX:Below w.heap.size w X:=hX▸bal (bt (ba _ _) hb1) _;have HRX:Hid (Rv X w.heap.size (.slice none 0 0) 0):=hX▸HR.out.alloc _;have HSX:=qQ (HD.out.keep HS.out (hbX.mono hN) hN);clear hX hb1 r0 r1 r2 r3 r4 HR HR0 HS1 HG hz1
  go_loopw [23] (fun iv wr=>∃ (i:Nat) (s:S),iv=.int .i64 (i:Int)/\i<=bits.length/\Hid (St wr s/\us s=i/\go s0 bits=go s (bits.drop i))/\Hid (w.grownBy wr (some E))/\Hid (Rv wr w.heap.size (.slice none 0 0) 0)) (fun iv _=>bits.length - (intOf iv).toNat)
  case atStart=>exact⟨0,s0,rfl,kQ _,⟨HSX.out,HD.out.u0,by simp⟩,dH hbX,HRX⟩
  case round =>
   obtain⟨i,s,rfl,hit,HI,HG,HR⟩:=hrel;have hz:w.heap.size+1<=wr.heap.size:=HR.out.lt;by_cases h1:i<bits.length
   ·obtain⟨b,hb⟩:=cX h1
    have HB:=qQ hb;have HVr:=qQ (HV.out.gb HG.out);obtain⟨_,_,hv',_,_,hx⟩:=HVr.out;simp only[iZ] at hv';obtain⟨rfl,_,rfl⟩:=hv';obtain⟨bb,bo,rfl,hbB,hbE,hcell⟩:=hx (ne_of_lt h1);have c1:=hcell i b hb;have hbit:=auZ HBad.out hb;have kc:=HD.out.feed rfl wr s b HI.out.1 (by omega) hbit (by rw[HI.out.2.1];omega);clear hb hx hcell;go_wp2_with fail;refine kc.mono ?_;rintro e w2 ⟨hg2,⟨rfl,s',h2,h3,h4⟩|⟨ra,rc,o,rfl,h2,h3,h4⟩⟩
    ·have HI2:Hid (St w2 s'/\us s' = (i+1:Nat)/\go s0 bits=go s' (bits.drop (i+1))):=⟨h2,by rw[h3,HI.out.2.1];omega,by
      rw[HI.out.2.2,gJ h1,<-h4];have:=(cQ.1 HB.out).2;rw[this]⟩
     have HR2:=qQ (HR.out.gb hg2 (by omega));have HG2:=qQ (bY HG.out hg2);have hz2:wr.heap.size<=w2.heap.size:=hg2.size;clear kc h2 h3 h4 hg2 HI HG HR;obtain⟨r0,r1,r2,r3,r4⟩:=HR2.out;go_wp2
     go_roundw
     case rel=>exact⟨i+1,s',by go_num,h1,⟨HD.out.keep HI2.out.1 ((ba _ _).mono (by omega)) (by omega),HI2.out.2⟩,sA HG2.out _,HR2.out.alloc _⟩
     case measure=>simp[intOf];omega
    ·have HI2:Hid (go s0 bits=some (o,(i:Int)+1,bits.drop (i+1))):=by
      have:=(cQ.1 HB.out).2;rw[Hid,HI.out.2.2,gJ h1,this,h4,HI.out.2.1]
     have HS2:=qQ h3;have hu:us s=(i:Int):=HI.out.2.1;rw[hu];have HR2:=qQ (HR.out.gb hg2 (by omega));have HG2:=qQ (bY HG.out hg2);have hz2:wr.heap.size<=w2.heap.size:=hg2.size;have HO:=qQ h2;have HV2:=qQ (HVr.out.gb hg2);clear kc h2 h3 h4 hg2 HI HG HR hu;obtain⟨r0,r1,r2,r3,r4⟩:=HR2.out;have ne1:¬ w.heap.size=w2.heap.size:=by omega
     have ne2:¬ w2.heap.size=w.heap.size:=by omega
     go_wp2
     go_region
     generalize hX:(((w2.setCell ⟨w.heap.size,0,none⟩ (.slice ra o.length rc)).setCell ⟨w.heap.size,1,none⟩ (.int .i64 ((i:Int)+1))).alloc (.cells #[.slice ra o.length rc,.int .i64 ((i:Int)+1)] 162)).drew=X;have hgX:w.grownBy X (some E):=hX▸eJ (sA (bL (bL HG2.out (p:=⟨w.heap.size,0,none⟩) (vQ _) _) (p:=⟨w.heap.size,1,none⟩) (vQ _) _) _);have hbX:Below w.heap.size w2 X:=hX▸(((((aQ w.heap.size w2).setCell (p:=⟨w.heap.size,0,none⟩) (vQ _) _).setCell (p:=⟨w.heap.size,1,none⟩) (vQ _) _).alloc (by simp;omega) _).drew);have HRX:Rv X w.heap.size (.slice ra o.length rc) ((i:Int)+1):=hX▸((HR2.out.put _ _).alloc _).drew
     have HIX:Hid (∀ m,m<w.heap.size+1->jQ X X.heap.size m (.slice ra o.length rc) o):=by
      have h1:=jQ.setm (jQ.setm (fun m hm=>HO.out m (by omega)) w.heap.size 0 (show w.heap.size<w.heap.size+1 by omega) (.slice ra o.length rc)) w.heap.size 1 (by omega) (.int .i64 ((i:Int)+1));intro m hm;have h2:=h1 m hm;rw[show w2.heap.size=((w2.setCell ⟨w.heap.size,0,none⟩ (.slice ra o.length rc)).setCell ⟨w.heap.size,1,none⟩ (.int .i64 ((i:Int)+1))).heap.size by simp] at h2;rw[<-hX];exact(h2.keep (ba _ _).drew).mono (by simp) (.inl rfl)
     have HVX:=qQ ((HV2.out.drop2 (i+1) h1).keep (hbX.mono (by omega)));have HSX:=qQ (HD.out.keep HS2.out (hbX.mono (by omega)) (by omega));rw[uP] at HVX;clear hX;obtain⟨x0,x1,_,_,_⟩:=HRX;generalize hsl:(if c=i+1 then some (⟨bb,bo,none⟩:Addr) else some ⟨bb,bo+(i+1),none⟩)=sl at HVX ⊢;clear hsl;go_wp2
     exact uQ (v:=.tuple #[.agg #[.slice ra o.length rc,.int .i64 ((i:Int)+1)],.slice sl (bits.length - (i+1)) (c - (i+1)),.bool true]) (by simp[results,results189,go_sem,x0,x1]) rfl
      ⟨hgX,.inr ⟨ra,rc,o,_,_,_,i+1,HI2.out,by rw[uP],fun m hm=>HIX.out m (by omega),by rw[uP];exact HVX.out,HSX.out⟩⟩
   ·have HI2:Hid (go s0 bits=none):=by rw[Hid,HI.out.2.2,fY (by omega),HD.out.nil]
    have HR2:=HR.out.put (.slice none 0 0) 0;obtain⟨r0,r1,r2,r3,r4⟩:=HR.out;obtain⟨x0,x1,_,_,_⟩:=HR2;go_wp2
    exact uQ (v:=.tuple #[dK,.slice none 0 0,.bool false]) (by simp[results,results189,go_sem,x0,x1]) rfl
     ⟨bL (bL HG.out (p:=⟨w.heap.size,0,none⟩) (vQ _) _) (p:=⟨w.heap.size,1,none⟩) (vQ _) _,.inl ⟨HI2.out,rfl⟩⟩
def vA (w:World) (B nb:Nat) (v:Value) (xs:List Int):Prop:=(∃ a c,v=.slice a xs.length c)/\(xs.length<=65536->jQ w B nb v xs)
theorem vA.of (h:jQ w B nb v xs):vA w B nb v xs:=⟨let ⟨a,c,hv,_⟩:=h;⟨a,c,hv⟩,fun _=>h⟩
theorem vA.keep (h:vA w B nb v xs)(hb:Below B w w'):vA w' B nb v xs:=⟨h.1,fun hl=>(h.2 hl).keep hb⟩
theorem vA.at (h:vA w B nb v xs)(hB:B<=w.heap.size)(hb:Below w.heap.size w w'):vA w' B nb v xs:=⟨h.1,fun hl=>(h.2 hl).at hB hb⟩
theorem vA.mono {B' nb':Nat}(h:vA w B nb v xs)(hB:B<=B')(hn:nb' = nb\/B<=nb'):vA w B' nb' v xs:=⟨h.1,fun hl=>(h.2 hl).mono hB hn⟩
theorem coZ (B N E:Nat){S:Type}(St:World->S->Prop)(go:S->Nx)(us:S->Int)(s0:S)(sur:Option (List Int))(D:Drw N E 191 190 St go us s0 sur)(v:Value)(bits:List Int)(times:Int)(w:World)(hB:B<=N)(hN:N<=w.heap.size)(hs:St w s0)(hv:vA w B E v bits)(ht:-9223372036854775808<=times/\times<=9223372036854775807)(l:List Pt)(er:Int)(hr:cI (eH go s0 sur) bits times=(l,er)) :
  Calls prog 114 #[.iface 211 (.pointer (some ⟨E,0,none⟩)),v,.int .i64 times] w (cnJ E l er w):=by
 have HV0:Hid (vA w B E v bits):=hv;have HD:Hid (Drw N E 191 190 St go us s0 sur):=D;have HS:Hid (St w s0):=hs;have HR:Hid (cI (eH go s0 sur) bits times=(l,er)):=hr;have lt:=D.lt;obtain⟨⟨a,c,rfl⟩,_⟩:=hv;clear D hs hr;by_cases h1:65536<bits.length
 ·have h:=HR.out
  simp only[cI,xA,zQ h1] at h;simp at h;obtain⟨rfl,rfl⟩:=h;go_enter func114,ntmps114;go_wp2;exact uQ (v:=.tuple #[.slice none 0 0,.int .i64 5]) (by simp[results,results114,go_sem]) rfl ⟨.slice none 0 0,([]:List Tr),rfl,rfl,bK _ _,vX _ _,lG.nil _⟩
 have HV:Hid (jQ w B E (.slice a bits.length c) bits):=HV0.out.2 (by omega)
 obtain⟨hc,hl⟩:bits.length<=c/\bits.length<=1073741824:=by
  obtain⟨_,_,he,h3,h4,_⟩:=HV.out;cases he;exact⟨h3,h4⟩
 clear HV0;by_cases h2:times<0
 ·have h:=HR.out
  simp only[cI,xA,xQ h1,zQ (show times<0\/4096<times\/aY bits=true from .inl h2)] at h;simp at h;obtain⟨rfl,rfl⟩:=h;go_enter func114,ntmps114;go_wp2;exact uQ (v:=.tuple #[.slice none 0 0,.int .i64 3]) (by simp[results,results114,go_sem]) rfl ⟨.slice none 0 0,([]:List Tr),rfl,rfl,bK _ _,vX _ _,lG.nil _⟩
 by_cases h3:4096<times
 ·have h:=HR.out
  simp only[cI,xA,xQ h1,zQ (show times<0\/4096<times\/aY bits=true from .inr (.inl h3))] at h;simp at h;obtain⟨rfl,rfl⟩:=h;go_enter func114,ntmps114;go_wp2;exact uQ (v:=.tuple #[.slice none 0 0,.int .i64 3]) (by simp[results,results114,go_sem]) rfl ⟨.slice none 0 0,([]:List Tr),rfl,rfl,bK _ _,vX _ _,lG.nil _⟩
 cases hbad:aY bits with
 | true =>
  have h:=HR.out;simp only[cI,xA,xQ h1,zQ (show times<0\/4096<times\/aY bits=true from .inr (.inr hbad))] at h;simp at h;obtain⟨rfl,rfl⟩:=h;have kc:=awX B E _ bits w HV.out false (by have:=oT bits;rw[hbad] at this;simpa using this.symm);clear hbad;go_enter func114,ntmps114;go_wp2_with fail;refine kc.mono ?_;rintro e w1 ⟨rfl,rfl⟩;clear kc;go_wp2;exact uQ (v:=.tuple #[.slice none 0 0,.int .i64 3]) (by simp[results,results114,go_sem]) rfl ⟨.slice none 0 0,([]:List Tr),rfl,rfl,bK _ _,vX _ _,lG.nil _⟩
 | false =>
  have HBad:Hid (aY bits=false):=hbad;have h:=HR.out;simp only[cI,xA,xQ h1,xQ (show ¬ (times<0\/4096<times\/aY bits=true) from by simp[hbad];omega)] at h;simp at h;have HL:Hid (cH (eH go s0 sur) times.toNat bits=l):=h.1;obtain rfl:(0:Int)=er:=h.2;obtain⟨T,rfl⟩:=cA (show 0<=times by omega);rw[vK] at HL;have kc:=awX B E _ bits w HV.out true (by have:=oT bits;rw[hbad] at this;simpa using this.symm);obtain⟨i0,hi0,hz0,hz1,hz2⟩:=rJ cnX;clear hbad h HR;have hT:T<=4096:=by omega
  go_enter func114,ntmps114;go_wp2_with fail;refine kc.mono ?_;rintro e w1 ⟨rfl,rfl⟩;clear kc;go_wp2
  go_loopw [1,8] (fun bv ov wr=>∃ (j:Nat) (ds:List Tr) (a':Option Addr) (c':Nat),bv=.slice a' (bits.drop j).length c'/\Hid (jQ wr B E bv (bits.drop j))/\ds.length<=T/\Hid (tY wr w1.heap.size ov ds)/\Hid (sQ w1.heap.size ds)/\Hid (St wr s0)/\Hid (w1.grownBy wr (some E))/\Hid (rd ds++cH (eH go s0 sur) (T - ds.length) (bits.drop j)=l)) (fun _ ov _=>T - slen ov)
  case atStart=>exact⟨0,[],a,c,by simp,by rw[bP];exact HV,kQ _,tY.nil _ _,sQ.nil _,HS,vX _ _,by simpa [rd,Hid] using HL.out⟩
  case round =>
   obtain⟨j,ds,a',c',rfl,HVj,hdT,HW,HF,HSj,HG,HLj⟩:=hrel;have hz:=HG.out.size;have hpl:=HW.out.lt;obtain⟨pa,pc,rfl⟩:=HW.out.slice;have HNA:Hid (lG w1.heap.size (.slice pa ds.length pc) ds):=⟨fun g e=>(hpl g e).1,HF.out⟩;have hbl:(bits.drop j).length<=65536:=by simp;omega
   have HBj:Hid (aY (bits.drop j)=false):=auJ HBad.out j;obtain⟨bj,hbj⟩:∃ bj,bits.drop j=bj:=⟨_,rfl⟩;rw[hbj] at hbl HBj HVj HLj ⊢;have HJ:Hid (bits.drop j=bj):=hbj;clear hbj;by_cases h4:ds.length<T
   ·have kc:=coX B N E St go us s0 sur HD.out (.slice a' bj.length c') bj wr hB (by omega) HSj.out HVj.out HBj.out hbl
    obtain⟨mo,hmo,hmg⟩:=cnZ (n:=wr.heap.size) (fun g e=>(hpl g e).2) (by omega);go_wp2_with fail;refine kc.mono ?_;rintro e w2 ⟨hg2,⟨h5,rfl⟩|⟨ra,rc,o,k,ra',rc',j',h5,rfl,h6,h7,h8⟩⟩
    ·have HLl:Hid (rd ds=l):=by have:=HLj.out;rw[ciZ h5,yU] at this;exact this
     have HW2:Hid (fQ w2 w2.heap.size (.slice pa ds.length pc) ds):=(HW.out.gb hg2 (by omega) HF.out).parts (by omega);have HG2:Hid (w1.grownBy w2 (some E)):=bY HG.out hg2;clear kc hg2 h5 HW HLj;go_wp2;exact uQ (v:=.tuple #[.slice pa ds.length pc,.int .i64 0]) (by simp[results,results114,go_sem]) rfl ⟨_,ds,rfl,HLl.out,(HW2.out.keep (ba _ _)).mono (by simp),sA HG2.out _,HNA.out⟩
    ·have HW2:Hid (tY w2 w1.heap.size (.slice pa ds.length pc) ds):=HW.out.gb hg2 (by omega) HF.out
     have HG2:Hid (w1.grownBy w2 (some E)):=bY HG.out hg2
     have HL2:Hid (rd (ds++[(.slice ra o.length rc,o,k)])++cH (eH go s0 sur) (T - (ds++[((.slice ra o.length rc,o,k):Tr)]).length) (bj.drop j')=l):=by
      have:=HLj.out;rw[show T - ds.length=(T - (ds.length+1))+1 by omega,ciJ h5] at this;simpa [Hid,rd] using this
     have HF2:Hid (sQ w1.heap.size (ds++[(.slice ra o.length rc,o,k)])):=HF.out.snoc (eT (w:=w2) (B:=w2.heap.size) fun m hm=>h6 m (by omega));have hzz:=hg2.size;have HI2:Hid (jQ w2 w2.heap.size mo (.slice ra o.length rc) o):=h6 mo hmo;have HV2:Hid (jQ w2 B E (.slice ra' (bj.drop j').length rc') (bj.drop j')):=h7;have HS2:Hid (St w2 s0):=h8;have HO2:Hid (tY ((w2.alloc (.cells #[.slice ra o.length rc,.int .i64 k] 162)).alloc (.cells #[.slice ra o.length rc,.int .i64 k] 162)) w1.heap.size (.slice pa ds.length pc) ds):=HW2.out.keep (bal (ba _ _) _);have HMG:Hid (∀ g,(Value.slice pa ds.length pc).ownBlock=some g->mo=g):=hmg;obtain⟨bk,hbk⟩:∃ bk,bj.drop j' = bk:=⟨_,rfl⟩;have HJ2:Hid (bk=bits.drop (j+j')):=by rw[Hid,<-hbk,<-HJ.out,List.drop_drop]
     rw[hbk] at HL2 HV2 ⊢;clear hbk kc hg2 h5 h6 h7 h8 HW HLj hmg HF HSj HVj HBj;go_wp2_with (at_builtin;refine jE _ rfl _ _ 149 rfl w1.heap.size 162 i0 (.agg #[.slice none 0 0,.int .i64 0]) 2 32 underlying149 hi0 hz0 hz1 hz2 rfl (by decide) _ _ _ rfl HO2.out.1 ⟨w2.heap.size+1,0,none⟩ 1 1 [.slice ra o.length rc,.int .i64 k] rfl ?q1 ?q2 ?q3 ?q4 ?q5 ?q6 ?_)
     case q1=>rfl
     case q2 =>
      intro j u hj
      match j,hj with
      | 0,hj=>simp at hj;subst hj;simp[go_sem,Addr.add]
      | 1,hj=>simp at hj;subst hj;simp[go_sem,Addr.add]
     case q3=>intro u hu;simp at hu;rcases hu with rfl|rfl <;> rfl
     case q4=>simp[maxLen];omega
     case q5=>omega
     case q6=>simp;omega
     intro v3 w3 hown3 hgrow hnil hat;have HW3:Hid (tY w3 w1.heap.size v3 (ds++[(.slice ra o.length rc,o,k)])):=HO2.out.app hown3 hgrow (by simpa using hat) (HI2.out.at2 (bal (ba _ _) _)) HMG.out;have hb3:Below w1.heap.size w2 w3:=(((aQ w1.heap.size w2).alloc (by omega) _).alloc (by simp;omega) _).grown hgrow (by simp;omega) (zO HO2.out.1);obtain⟨a3,c3,rfl⟩:=HW3.out.slice;have HG3:Hid (w1.grownBy w3 (some E)):=⟨hb3.os.trans HG2.out.os,hb3.tape.trans HG2.out.tape,hb3.output.trans HG2.out.output,bQ HG2.out.size hb3.size,fun q hq hne=>(hb3.block q hq).trans (HG2.out.block q hq hne)⟩;have HS3:Hid (St w3 s0):=HD.out.keep HS2.out (hb3.mono hN) (by omega);have HV3:Hid (jQ w3 B E (.slice ra' bk.length rc') bk):=HV2.out.keep (hb3.mono (by omega));clear hown3 hgrow hnil hat HO2 HW2;go_wp2
     go_roundw
     case rel=>exact⟨j+j',ds++[(.slice ra o.length rc,o,k)],ra',rc',by rw[<-HJ2.out],by rw[<-HJ2.out];exact HV3,by simp;omega,HW3,HF2,HS3,HG3,by rw[<-HJ2.out];exact HL2⟩
     case measure=>simp[slen];omega
   ·have HLl:Hid (rd ds=l):=by have:=HLj.out;rw[show T - ds.length=0 by omega] at this;simpa [Hid,cH] using this
    have HW2:Hid (fQ wr wr.heap.size (.slice pa ds.length pc) ds):=HW.out.parts (by omega);clear HW HLj hpl;go_wp2;exact uQ (v:=.tuple #[.slice pa ds.length pc,.int .i64 0]) (by simp[results,results114,go_sem]) rfl ⟨_,ds,rfl,HLl.out,HW2.out,HG.out,HNA.out⟩
abbrev RoI:=Int × Int × Int
def gH (N E:Nat) (a:Option Addr) (c:Nat) (us:List Tr) (w:World) (s:RoI):Prop :=
 Rob w E (.slice a us.length c) (tot (rd us)) s.1 s.2.1 s.2.2/\Rop w N E a c us/\(2<=us.length->0<=s.2.2/\s.2.2<tot (rd us)/\Nd (tot (rd us)) s.2.2 (rd us) s.1)
def dI (l:List Pt) (s:RoI):Nx:=fun bits=>rA (tot l) l s.2.2 s.1 s.2.1 bits
theorem awJ {l:List Pt}:eH (dI l) (0,0,1) (fH l)=jA l:=by
 funext bits
 match l with
 | []=>rfl
 | [p]=>rfl
 | _::_::_=>rfl
theorem gH.start {us:List Tr}(hD:Dis (rd us))(h:Rob w E (.slice a us.length c) (tot (rd us)) 0 0 1)(hP:Rop w N E a c us):gH N E a c us w (0,0,1):=by
 refine⟨h,hP,fun h2=>?_⟩;have h3:=hD.less (by rw[rV];exact h2);refine⟨by simp,?_,Nd.start h3⟩;cases us with
 | nil=>simp at h2
 | cons t us =>
  have h4:=h3 t.2 (by simp[rd]);have h5:=hD.pos t.2 (by simp[rd]);simp only;omega
theorem axQ (N E:Nat)(a:Option Addr)(c:Nat)(us:List Tr)(hD:Dis (rd us))(hE:E<N):Drw N E 191 190 (gH N E a c us) (dI (rd us)) (fun s=>s.2.1) (0,0,1) (fH (rd us)) where
 keep:=fun h hb _=>⟨h.1.keep hb hE,h.2.1.keep hb,h.2.2⟩
 lt:=hE
 nil:=fun s=>rfl
 u0:=rfl
 sure:=fun w s h hN=>cmX N E a c us _ s.1 s.2.1 s.2.2 w h.1 h.2.1 hN
 feed:=by
  intro hs w s b h hN hb hu
  have hl:2<=us.length:=by
   rcases Nat.lt_or_ge us.length 2 with h1|h1
   ·match us,hs,hD,h1 with
    | [],_,hD,_=>exact absurd rfl hD.ne
    | [t],hs,_,_=>simp[fH,rd] at hs
   ·exact h1
  obtain⟨nd,u,pl⟩:=s;obtain⟨q1,q2,q3⟩:=h.2.2 hl;simp only at q1 q2 q3 hu;have hT:=hD.tpos;have hT2:=hD.le;have hnd:=q3.le (by omega);have hfw:=h.2.1.few
  have hk:∀ t∈us,0<=t.2.2/\t.2.2<=1073741824:=fun t ht=>by
   have:=hD.less (by rw[rV];exact hl) t.2 (anX (f:=fun t:Tr=>t.2) ht);omega
  rw[rV] at hnd
  have hbit:bits .and .i64 b 1=b:=by
   rcases (show b=0\/b=1 by omega) with rfl|rfl <;> decide
  refine(clZ N E a c us (tot (rd us)) nd u pl b b w h.1 h.2.1 hN hl ⟨hT,hT2⟩ ⟨q1,q2⟩ hk ⟨hu.1,by omega⟩ ⟨hnd.1,by omega⟩ hb hbit).mono ?_;rintro e w' ⟨hg,⟨rfl,k1,k2⟩|⟨a',c',o,rfl,k0,k1,k2⟩⟩
  ·have hlen:=List.getElem?_eq_none_iff.1 k1
   refine⟨hg,.inl ⟨rfl,(2*nd+b - (rZ (tot (rd us)) pl (rd us)).length,u+1,2*pl % tot (rd us)),⟨k2,h.2.1.gb hg,fun _=>?_⟩,rfl,fun l=>?_⟩⟩
   ·refine⟨Int.emod_nonneg _ (by omega),Int.emod_lt_of_pos _ (by omega),q3.next (by omega) hb (by omega)⟩
   ·simp only[dI,rA,k1]
  ·refine⟨hg,.inr ⟨a',c',o,rfl,k0,gH.start hD k2 (h.2.1.gb hg),fun l=>?_⟩⟩
   simp only[dI,rA,k1]
def yR (l:List Pt) (bits:List Int) (times:Int):List Pt × Int:=if (pX l).2=0 then cI (jA l) bits times else ([],(pX l).2)
theorem coJ (B nb:Nat)(v u:Value)(ts:List Tr)(bits:List Int)(times:Int)(w:World)(hB:B<=w.heap.size)(hp:fQ w B v ts)(hv:vA w B nb u bits)(ht:-9223372036854775808<=times/\times<=9223372036854775807)(l:List Pt)(er:Int)(hr:yR (rd ts) bits times=(l,er)) :
  Calls prog 55 #[v,u,.int .i64 times] w (yZ l er w):=by
 obtain⟨⟨l0,e0⟩,ho⟩:∃ x,pX (rd ts)=x:=⟨_,rfl⟩;have kn:=vR B v ts w hB hp l0 e0 ho;have HV:=qQ hv;have HO:=qQ ho;have HR:=qQ hr;obtain⟨a,c,rfl,hc,hl,_⟩:=hp;obtain⟨⟨ua,uc,rfl⟩,_⟩:=hv;clear hr ho;go_enter func55,ntmps55;go_wp2_with fail;refine kn.mono ?_;rintro e w1 ⟨hb1,⟨h0,rfl⟩|⟨rfl,E,ra,rc,us,rfl,h1,h2,h3,h4⟩⟩
 ·have h0':(e0 == 0)=false:=by simpa using h0
  have h:=HR.out;simp only[yR,HO.out,xQ h0,dQ] at h;obtain⟨rfl,rfl⟩:=h;clear kn;go_wp2;exact uQ (v:=.tuple #[.slice none 0 0,.int .i64 e0]) (by simp[results,results55,go_sem]) rfl ⟨.slice none 0 0,[],rfl,rfl,bK _ _,hb1,lG.nil _⟩
 ·obtain⟨_,hD⟩:=dD HO.out
  have h:cI (eH (dI (rd us)) (0,0,1) (fH (rd us))) bits times=(l,er):=by
   have h:=HR.out;simp only[yR,HO.out,uU] at h;rw[awJ,h1];exact h
  rw[<-h1] at hD h2;have hs1:=hb1.size;have kd:=coZ w.heap.size w1.heap.size E (gH w1.heap.size E ra rc us) (dI (rd us)) (fun s=>s.2.1) (0,0,1) (fH (rd us)) (axQ w1.heap.size E ra rc us hD h2.lt) (.slice ua bits.length uc) bits times w1 (by omega) (vQ _) (gH.start hD h2 h3) ((HV.out.at hB hb1).mono hB (.inr (by omega))) ht l er h;clear kn h h2 h3 hD h1;go_wp2_with fail;refine kd.mono ?_;rintro e w2 ⟨v2,ds,rfl,k1,k2,k3,k4⟩;obtain⟨a2,c2,rfl,_⟩:=id k2;have K:Hid (rd ds=l/\fQ w2 w2.heap.size (.slice a2 ds.length c2) ds/\Below w.heap.size w w2/\lG w.heap.size (.slice a2 ds.length c2) ds):=⟨k1,k2,hb1.trans (aF k3 h4 hs1),k4.mono hs1⟩;clear kd k1 k2 k3 k4;go_wp2;exact uQ (v:=.tuple #[.slice a2 ds.length c2,.int .i64 er]) (by simp[results,results55,go_sem]) rfl ⟨_,ds,rfl,K.out.1,K.out.2.1,K.out.2.2.1,K.out.2.2.2⟩
theorem axX {l:List Pt}{pl nd u0:Int}(h:rA T l pl nd u0 bits=some (o,u,r)) :
  ∃ j:Nat,u=u0+j/\j<=bits.length/\rA T l pl nd u0 (bits.take j)=some (o,u,[]):=by
 induction bits generalizing pl nd u0 with
 | nil=>cases h
 | cons b bits ih =>
  simp only[rA] at h;cases e:(rZ T pl l)[(2*nd+b).toNat]? with
  | some o' =>
   rw[e] at h;simp only[xX,dQ] at h;obtain⟨rfl,rfl,rfl⟩:=h;exact⟨1,rfl,by simp,by simp[rA,e]⟩
  | none =>
   rw[e] at h;obtain⟨j,h1,h2,h3⟩:=ih h;refine⟨j+1,by rw[h1];omega,by simp;omega,?_⟩;rw[List.take_succ_cons];simp only[rA,e];exact h3
theorem cpQ {l:List Pt}(h:jA l bits=some (o,u,r)) :
  ∃ j:Nat,u=j/\j<=bits.length/\∃ r',jA l (bits.take j)=some (o,u,r'):=by
 match l,h with
 | [p],h =>
  simp only[jA,xX,dQ] at h;obtain⟨rfl,rfl,rfl⟩:=h;exact⟨0,rfl,kQ _,[],rfl⟩
 | [],h =>
  obtain⟨j,h1,h2,h3⟩:=axX (show rA _ _ _ _ _ bits=_ from h);exact⟨j,by omega,h2,[],h3⟩
 | _::_::_,h =>
  obtain⟨j,h1,h2,h3⟩:=axX (show rA _ _ _ _ _ bits=_ from h);exact⟨j,by omega,h2,[],h3⟩
end
section
open Go.RowKit Go.Shelf Ds
def wW:List Tr->List Tr->Int
 | [],_=>1
 | _::_,[]=>-1
 | a::_,b::_=>nX a.2.1 b.2.1
theorem kM (B:Nat)(u v:Value)(ts us:List Tr)(w:World)(hB:B<=w.heap.size)(hp:fQ w B u ts)(hq:fQ w B v us)(r:Int)(hr:wW ts us=r) :
  Calls prog 251 #[u,v] w fun e w'=>e=.returned (.int .i64 r)/\Below w.heap.size w w':=by
 have HP:=qQ hp;have HQ:=qQ hq;obtain⟨a,c,rfl,hc,hl,_⟩:=hp;obtain⟨a2,c2,rfl,hc2,hl2,_⟩:=hq;cases ts with
 | nil =>
  simp only[wW] at hr;subst hr;go_enter func251,ntmps251;go_wp2;go_ret;exact⟨rfl,aQ _ _⟩
 | cons t ts =>
  have z0:(((t::ts).length:Int) == 0)=false:=by simp;omega
  cases us with
  | nil =>
   simp only[wW] at hr;subst hr;go_enter func251,ntmps251;go_wp2;go_ret;exact⟨rfl,aQ _ _⟩
  | cons s us =>
   have z1:(((s::us).length:Int) == 0)=false:=by simp;omega
   obtain⟨b,o,sa,sc,xs,k,rfl,hb,hs,c1,c2',hI⟩:=HP.out.get hB (aQ _ w) (i:=0) (by simp);obtain⟨b2,o2,sa2,sc2,xs2,k2,rfl,hb2,hs2,d1,d2,hI2⟩:=HQ.out.get hB (aQ _ w) (i:=0) (by simp);simp at hs hs2;subst hs hs2;have HI:=qQ hI;have HI2:=qQ hI2;have HR:=qQ hr;simp only[jI,oA] at c1 c2' d1 d2;have y0:(0:Int)<(((.slice sa xs.length sc,xs,k)::ts:List Tr).length:Int):=by simp <;> omega
   have y1:(0:Int)<(((.slice sa2 xs2.length sc2,xs2,k2)::us:List Tr).length:Int):=by simp <;> omega
   obtain⟨n1,hn1⟩:∃ n,((.slice sa xs.length sc,xs,k)::ts:List Tr).length=n:=⟨_,rfl⟩;obtain⟨n2,hn2⟩:∃ n,((.slice sa2 xs2.length sc2,xs2,k2)::us:List Tr).length=n:=⟨_,rfl⟩;rw[hn1] at z0 y0 ⊢;rw[hn2] at z1 y1 ⊢;have x0:0<n1:=by omega
   have x1:0<n2:=by omega
   clear hI hI2 hr HP HQ hc hl hc2 hl2 hn1 hn2;go_enter func251,ntmps251;go_wp2_with fail
   go_region_held3 (fun w'=>Below w.heap.size w w'/\w'.cell? ⟨b,o,none⟩=some (.slice sa xs.length sc)/\w'.cell? ⟨b,o+1,none⟩=some (.int .i64 k)/\w'.cell? ⟨b2,o2,none⟩=some (.slice sa2 xs2.length sc2)/\w'.cell? ⟨b2,o2+1,none⟩=some (.int .i64 k2))
    ((go_split_ands;refine⟨?_,?_,?_,?_,?_⟩ <;> first|(simp[go_sem, *];done)|(exact(aQ _ _).drew)|(exact bt (aQ _ _).drew hb1)))
    ((go_at_call 44;refine(lT B B B _ _ _ _ xs xs2 _ ?_ ?_ ?_ r HR.out).mono ?_;(show B<=w.heap.size;omega);(exact HI.out.keep (aQ _ _).drew);(exact HI2.out.keep (aQ _ _).drew);rintro x1 w1 ⟨rfl,hb1⟩;obtain⟨hc1,hf1⟩:=bcell hb1;have e1:w1.cell? ⟨b,o,none⟩=some (.slice sa xs.length sc):=(hc1 _ _ hb).trans c1;have e2:w1.cell? ⟨b,o+1,none⟩=some (.int .i64 k):=(hc1 _ _ hb).trans c2';have e3:w1.cell? ⟨b2,o2,none⟩=some (.slice sa2 xs2.length sc2):=(hc1 _ _ hb2).trans d1;have e4:w1.cell? ⟨b2,o2+1,none⟩=some (.int .i64 k2):=(hc1 _ _ hb2).trans d2;clear hc1 hf1))
   rename_i hHeld;go_wp2;go_ret;exact⟨rfl,hHeld.1⟩
def mrg:List Tr->List Tr->List (Tr × Tr)
 | [],[]=>[]
 | [],b::bs=>(no,b)::mrg [] bs
 | a::az,[]=>(a,no)::mrg az []
 | a::az,b::bs=>if nX a.2.1 b.2.1<0 then (a,no)::mrg az (b::bs) else if 0<nX a.2.1 b.2.1 then (no,b)::mrg (a::az) bs else (a,b)::mrg az bs
termination_by az bs=>az.length+bs.length
theorem fQ.tail {b o:Nat}{t:Tr}{ts:List Tr}(h:fQ w B (.slice (some ⟨b,o,none⟩) n c) (t::ts))(A:Option Addr)(hA:1<c->A=some ⟨b,o+2,none⟩):fQ w B (.slice A ts.length (c - 1)) ts:=by
 obtain⟨a',c',hv,hc,hl,hi,hx⟩:=h;simp only[iZ] at hv;obtain⟨rfl,rfl,rfl⟩:=hv;simp only[oJ] at hc hl;refine⟨A,c - 1,rfl,by omega,by omega,fun u hu=>hi u (by simp[hu]),fun hne=>?_⟩;have hpos:0<ts.length:=dE.2 hne;obtain⟨b',o',he,hb,hcell⟩:=hx (by simp);simp only[xX,jG,sN] at he;obtain⟨rfl,rfl⟩:=he;refine⟨b,o+2,hA (by omega),hb,fun i u hu=>?_⟩;have:=hcell (i+1) u (by simpa using hu);rw[show o+2+i*2=o+(i+1)*2 by omega];exact this
end
end Go.Proofs.YtpmioeamdhdokaaGreat
