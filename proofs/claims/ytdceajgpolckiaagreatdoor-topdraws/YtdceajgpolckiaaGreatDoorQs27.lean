import Derived.Test.YtdceajgpolckiaaGreatDoorQs14
import Derived.Test.YtdceajgpolckiaaGreatDoorQs26
import Derived.Test.YtdceajgpolckiaaGreatDoorQs15
import Derived.Maps.Own
import Derived.Maps.OwnOps
import Derived.Maps.OwnSet
import Derived.Maps.Views
import Derived.Deep.RegionHeld3
open Go.Proofs.Tryz
set_option linter.unusedSimpArgs false
set_option maxHeartbeats 16000000
set_option maxRecDepth 100000
namespace Go.Proofs.YtdceajgpolckiaaGreatDoor
namespace K.P
open Go.RowKit K.Ds Go.Maps Go.Sort Go.Shelf
theorem crJ (m:Nat):AnyZI.SortsIn prog Tryz.sortedI_ren Fence.wide m :=
 ⟨fun blk off cap ss W hH hblk hsz=>callsIn_wide.2 (AnyM.slices_Sort_int Tryz.sortI blk off cap ss W hH hblk hsz),
  fun p cap W=>callsIn_wide.2 (AnyM.slices_Sort_int_none Tryz.sortI p cap W)⟩
theorem csQ (mb:Option Nat)(W:World):Calls prog 170 #[.map mb] W fun e w'=>e=.returned (.func (.func 199) #[] #[.pointer (some ⟨W.heap.size,0,none⟩)])/\w' = W.alloc (.cells #[.map mb] 205) :=
 callsIn_wide.1 (AnyZI.keys_in Tryz.keysI Fence.wide 5 trivial rfl mb W)
theorem csX {H:Type}(g b nn:Nat)(D0:DataW H)(R:Value->Option (DataW H × List MemPlace))(w:World)(hg:g<w.heap.size)(hc:w.cell? ⟨g,0,none⟩=some (.map (some b)))(hown:w.ownsMap prog 3 R b nn D0)(hn:nn<=1048576) :
  Calls prog 169 #[.func (.func 199) #[] #[.pointer (some ⟨g,0,none⟩)]] w fun e w'=>∃ (v:Value) (ss:List Int),e=.returned v/\ss.Perm (intKeys D0) /\
   w'.ownsRow w.heap.size 3 1 v ss.length ((ss.mergeSort (fun x y=>decide (x<=y))).map encZ)/\Below w.heap.size w w':=by
 have hsz:=hown.size_le
 have hseq:SeqGives Fence.wide 2 prog 199 #[.pointer (some ⟨g,0,none⟩)] encZ (fun ss=>ss.Perm (intKeys D0)) (Maps.size D0) w :=
  AnyZI.keys_gives (ρ:=Tryz.keysI_ren) { Tryz.keysI with } Fence.wide _ trivial rfl (by omega) g b nn D0 _ hg hc hown
 have cS:=AnyZI.sorted_in Tryz.sortedI Fence.wide 5 trivial trivial trivial trivial rfl (by omega) (crJ _) (enters_of func198 (by kernel_rfl) rfl) 199 #[.pointer (some ⟨g,0,none⟩)] trivial (enters_of func199 (by kernel_rfl) rfl) _ _ (by unfold maxLen;omega) (by omega) _ hseq;refine(callsIn_wide.1 cS).mono ?_;rintro e w' ⟨v,ss,h1,h2,h3,_,h4⟩;exact⟨v,ss,h1,h2,h3,h4⟩
theorem csZ {H:Type}{b nn:Nat}{D0:DataW H}{R:Value->Option (DataW H × List MemPlace)}{w:World}(hown:w.ownsMap prog 3 R b nn D0)(x:Int):x∈intKeys D0↔has D0 (.int .i64 x)=true:=by
 obtain⟨es,rfl,hko⟩:=hown.keysOf
 have hk:∀ p∈es,∃ x,p.1=.int .i64 x:=fun p hp=>by
  obtain⟨v,hv⟩:=hko p hp;obtain⟨y,_,hy,_⟩:=Maps.keyOf_i64 underlying3 hv;exact⟨y,hy⟩
 rw[has_eq,List.any_eq_true]
 show x∈es.map (fun p=>Go.intOf p.1)↔_
 rw[yJ];constructor
 ·rintro⟨p,hp',rfl⟩
  obtain⟨a,ha⟩:=hk p hp';exact⟨p,hp',by rw[ha];simp[Lit.sameKey,Go.intOf]⟩
 ·rintro⟨p,hp',hs⟩
  obtain⟨a,ha⟩:=hk p hp';rw[ha] at hs;exact⟨p,hp',by rw[ha];simpa [Lit.sameKey,Go.intOf] using hs⟩
theorem aiQ {H:Type}(R:Value->Option (DataW H × List MemPlace))(b n:Nat)(D:DataW H)(w:World)(hown:w.ownsMap prog 3 R b n D) :
  Calls prog 193 #[.map (some b)] w fun e w'=>e=.returned (.map (some w.heap.size))/\w'.ownsMap prog 3 R w.heap.size n D/\Below w.heap.size w w'/\w.heap.size<w'.heap.size:=by
 refine(AnyW.maps_Clone_owns Tryz.cloneM 3 R b n D w hown).mono ?_;rintro e w' ⟨h1,h2,_,h3⟩;exact⟨h1,h2,h3,h2.lt⟩
theorem aiX (s:ByteArray)(w:World)(hs:s.size<=281474976710656):Calls prog 91 #[.string s] w fun e w'=>e=.returned (.string s)/\Below w.heap.size w w':=by
 have hc:=fun W=>AnyPu.stringslite_Clone Tryz.cloneT s W hs;change ∀ W,Calls prog 149 _ W _ at hc;go_enter func91,ntmps91;go_wp2_with (go_at_call 149;refine(hc _).mono ?_;rintro e w' ⟨rfl,hb⟩);go_ret;exact⟨rfl,hb⟩
end K.P
namespace K.P
open Go.RowKit K.Ds
open Go.Maps (Keyed int_keyed string_keyed keyOf_int_mk)
open Go.WideMaps (keyOf_string_mk)
theorem cX (w:World)(r:Option Nat):w.grownBy w r:=rN w r
theorem xY {a b c:World}{r:Option Nat}(h:a.grownBy b r)(k:b.grownBy c r):a.grownBy c r :=
 ⟨k.os.trans h.os,k.tape.trans h.tape,k.output.trans h.output,aQ h.size k.size,fun i hi hr=>(k.block i (zX hi h.size) hr).trans (h.block i hi hr)⟩
theorem eU {a b:World}{r:Option Nat}(h:a.grownBy b r)(o:Obj):a.grownBy (b.alloc o) r:=xY h (World.grownBy_alloc b o r)
theorem xJ {a b:World}{r:Option Nat}(h:a.grownBy b r):a.grownBy b.drew r:=⟨h.os,h.tape,h.output,h.size,h.block⟩
theorem sQ {a b:World}{E:Nat}(h:a.grownBy b (some E))(k:Nat)(u:Value):a.grownBy (b.setCell ⟨E,k,none⟩ u) (some E) :=
 xY h ⟨rfl,rfl,rfl,by simp[World.setCell],fun i _ hr=>lL _ _ _ _ (by intro e;exact hr (by rw[e]))⟩
theorem yD {a b:World}{r:Option Nat}(h:Below a.heap.size a b):a.grownBy b r:=⟨h.os,h.tape,h.output,h.size,fun k hk _=>h.block k hk⟩
theorem cG {a b:World}{E B:Nat}(h:a.grownBy b (some E))(hB:B<=E)(hE:B<=a.heap.size):Below B a b:=⟨h.os,h.tape,h.output,h.size,fun k hk=>h.block k (by omega) (by simp;omega)⟩
theorem csJ {w w':World}{B nb:Nat}{v:Value}{xs:List Int}(h:xQ w B nb v xs)(hg:w.grownBy w' (some nb)):xQ w' B nb v xs:=by
 obtain⟨a,c,hv,hc,hl,hx⟩:=h;refine⟨a,c,hv,hc,hl,fun hne=>?_⟩;obtain⟨b,o,ha,hB,hn,hcell⟩:=hx hne;exact⟨b,o,ha,hB,hn,fun i x hi=>hg.cell (hcell i x hi) (by simpa using hn)⟩
theorem ctQ {w:World}{B nb:Nat}{a:Option Addr}{n c:Nat}{xs:List Int}(h:xQ w B nb (.slice a n c) xs){i:Nat}(hi:i<xs.length) :
  ∃ b o x,a=some ⟨b,o,none⟩/\b<B/\xs[i]? = some x/\w.cell? ⟨b,o+i,none⟩=some (.int .i64 x):=by
 obtain⟨a',c',hv,_,_,hx⟩:=h;simp only[eJ] at hv;obtain⟨rfl,rfl,rfl⟩:=hv;obtain⟨b,o,ha,hb,_,hcell⟩:=hx (ne_of_lt hi);obtain⟨x,hx⟩:=lX hi;exact⟨b,o,x,ha,hb,hx,hcell i x hx⟩
theorem iS {w:World}{base nb:Nat}{v:Value}{xs:List Int}{n:Nat}(hn:n=xs.length)(hl:xs.length<=9223372036854775807)(h:w.ownsRow base 3 1 v n (xs.map (.int .i64)))(hnb:nb<base):xQ w w.heap.size nb v xs:=by
 subst hn;obtain⟨_,⟨hv,h0⟩|⟨g,cap,cur,hv,hb,hcur,hc,_,hsz,hx⟩⟩:=h
 ·obtain rfl:xs=[]:=by cases xs <;> simp_all
  exact⟨none,0,hv,jQ _,hl,fun h=>absurd rfl h⟩
 ·refine⟨_,cap,hv,hc,hl,fun _=>⟨g,0,rfl,(mY.1 hcur).1,by omega,fun i x hi=>?_⟩⟩
  have hi2:i<xs.length:=(gQ.1 hi).1
  have:cur[i]? = some (.int .i64 x):=by
   have h1:(xs.map (Value.int .i64))[i]? = some (.int .i64 x):=by simp[hi]
   rw[<-hx,gH (by omega)] at h1;simpa using h1
  simp[World.cell?,hcur,this]
structure TwoB (w:World) (R:Nat) (x y:Value):Prop where
 c0:w.cell? ⟨R,0,none⟩=some x
 c1:w.cell? ⟨R,1,none⟩=some y
 f0:w.frozen? ⟨R,0,none⟩=false
 f1:w.frozen? ⟨R,1,none⟩=false
 lt:R<w.heap.size
theorem TwoB.below {w w':World}{R:Nat}{x y:Value}(h:TwoB w R x y)(b:Below w.heap.size w w'):TwoB w' R x y :=
 ⟨(b.cell (p:=⟨R,0,none⟩) h.lt).trans h.c0,(b.cell (p:=⟨R,1,none⟩) h.lt).trans h.c1,(b.frozen (p:=⟨R,0,none⟩) h.lt).trans h.f0,(b.frozen (p:=⟨R,1,none⟩) h.lt).trans h.f1,zX h.lt b.size⟩
theorem TwoB.new (w:World)(x y:Value)(t:TypeId)(N:Nat)(hN:N=w.heap.size):TwoB (w.alloc (.cells #[x,y] t)) N x y :=
 ⟨nc _ _ 0 _ hN rfl,nc _ _ 1 _ hN rfl,nf _ _ 0 hN,nf _ _ 1 hN,by simp;omega⟩
theorem TwoB.put {w:World}{R:Nat}{x y:Value}(h:TwoB w R x y)(u v:Value):TwoB ((w.setCell ⟨R,0,none⟩ u).setCell ⟨R,1,none⟩ v) R u v:=by
 have h0:TwoB (w.setCell ⟨R,0,none⟩ u) R u y:=⟨gV h.c0,(rQ (by simp)).trans h.c1,cZ.trans h.f0,cZ.trans h.f1,by simpa using h.lt⟩;exact⟨(rQ (by simp)).trans h0.c0,gV h0.c1,cZ.trans h0.f0,cZ.trans h0.f1,by simpa using h0.lt⟩
def hR:Value->Option (DataW Value × List MemPlace):=fun v=>some (.held v,[])
theorem xI:Keyed prog 3:=int_keyed underlying3
theorem uB:Keyed prog 9:=string_keyed underlying9
theorem aiJ (w:World):(zeroValue 32).run prog w=.ok (rv 0 0) w:=by kernel_rfl
abbrev rvq (r:Rq):Value:=rv r.1 r.2
abbrev pv (b a:Rq) (m:Nat):Value:=.agg #[.int .i64 b.1,.int .i64 b.2,.int .i64 a.1,.int .i64 a.2,.map (some m)]
theorem ctX (w:World):(zeroValue 207).run prog w=.ok (.agg #[.int .i64 0,.int .i64 0,.int .i64 0,.int .i64 0,.map none]) w:=by kernel_rfl
structure Pts (w:World) (b n:Nat) (D:DataW Value) (P:Int->Prop) (f:Int->Rq):Prop where
 own:w.ownsMap prog 3 hR b n D
 is:∀ z,Maps.has D (.int .i64 z)=true↔P z
 el:∀ z,P z->D.atKey (.int .i64 z) (.held (rv 0 0))=.held (rvq (f z))
 rng:∀ z,P z->0<=z/\z<=1073741824
theorem pG {w w':World}(h:Below w.heap.size w w'):w.grownBy w' none:=yD h
theorem Pts.gb {w w':World}{b n:Nat}{D:DataW Value}{P:Int->Prop}{f:Int->Rq}{r:Option Nat}(h:Pts w b n D P f)(hg:w.grownBy w' r)(hne:some b≠r):Pts w' b n D P f :=
 ⟨h.own.kept hg hne,h.is,h.el,h.rng⟩
theorem Pts.keep {w w':World}{b n:Nat}{D:DataW Value}{P:Int->Prop}{f:Int->Rq}(h:Pts w b n D P f)(hb:Below w.heap.size w w'):Pts w' b n D P f:=h.gb (pG hb) (by simp)
theorem Pts.look {w:World}{b n:Nat}{D:DataW Value}{P:Int->Prop}{f:Int->Rq}(h:Pts w b n D P f){z:Int}(hz:P z) :
  (Instr.lookup 205 (.map (some b)) (.int .i64 z) false).run prog w=.ok (rvq (f z)) w:=by
 have hwf:(Lit.int .i64 z).wf=true:=WalkArith.wf_i64 (by have:=h.rng z hz;omega);obtain⟨v',ps,hrun,hat⟩:=h.own.lookup xI underlying205 (aiJ w) (zd:=.held (rv 0 0)) (zp:=[]) rfl (keyOf_int_mk underlying3 hwf);rw[h.el z hz] at hat;simp[hR] at hat;rw[hrun,hat.1]
theorem ajQ (w:World):Calls prog 168 #[] w fun e w'=>e=.returned (rv 1 1)/\Below w.heap.size w w':=by
 go_enter func168,ntmps168;go_wp2;exact yQ (v:=rv 1 1) (by simp[results,results168,go_sem]) rfl ⟨rfl,ba _ _⟩
theorem mP (a b:Rq)(ha:oQ a)(hb:oQ b)(r:Bool)(hr:decide (wX a b) = !r)(w:World):Calls prog 171 #[rvq a,rvq b] w fun e w'=>e=.returned (.bool r)/\Below w.heap.size w w':=by
 have h:=lK a.1 a.2 b.1 b.2;cases r with
 | true =>
  have h1:Rt.nH a.1 a.2 b.1 b.2=(1,0):=by
   have:¬ wX a b:=wL hr;unfold wX at this;unfold Rt.nH;rw[zQ ⟨ha.1,hb.1⟩,qQ (by omega),zQ (by omega)]
  have k:=h 1 0 h1;clear h h1 hr;go_enter func171,ntmps171;go_wp2_with fail;refine(k _).mono ?_;rintro e w1 ⟨rfl,hb1⟩;go_wp2;go_ret;exact⟨rfl,bt (bal (ba _ _) _) hb1⟩
 | false =>
  obtain⟨k0,hk0,h1⟩:∃ k0:Int,k0<=0/\Rt.nH a.1 a.2 b.1 b.2=(k0,0):=by
   have:wX a b:=eH hr;unfold wX at this;unfold Rt.nH;rw[zQ ⟨ha.1,hb.1⟩];by_cases c:a.1*b.2<b.1*a.2
   ·exact⟨-1,by omega,by rw[zQ c]⟩
   ·exact⟨0,by omega,by rw[qQ c,qQ (by omega)]⟩
  have k:=h k0 0 h1;clear h h1 hr;go_enter func171,ntmps171;go_wp2_with fail;refine(k _).mono ?_;rintro e w1 ⟨rfl,hb1⟩;go_wp2;have hd:decide (0<k0)=false:=dV (by omega);go_ret;exact⟨by simp[hd],bt (bal (ba _ _) _) hb1⟩
theorem ctZ {w:World}{b n:Nat}{D:DataW Value}(h:w.ownsMap prog 3 hR b n D):(intKeys D).length<=n:=by
 have h1:=h.size_le;obtain⟨es,rfl,_⟩:=h.keysOf;simpa [intKeys,Maps.size] using h1
theorem ajX {f:Int->Rq}{xs:List Int}{i:Nat}{z:Int}{m:Rq}(h:Top f (fun q=>q∈xs.take i) m)(hz:xs[i]? = some z)(ho:oQ (f z)):Top f (fun q=>q∈xs.take (i+1)) (if wX (f z) m then m else f z):=by
 have h1:=h.more (p:=z) ho;rw[cmQ h.ok ho] at h1;refine h1.congr (fun q=>?_) (fun _ _=>rfl);rw[nZ,hz];simp
theorem ctJ (bud al:Rq)(bm n:Nat)(D:DataW Value)(P:Int->Prop)(f:Int->Rq)(w:World)(hp:Pts w bm n D P f)(hn:n<=1048576)(m:Rq)(ht:Top f P m)(r:Rq)(e:Int)(hr:kQ al m=(r,e)) :
  Calls prog 111 #[pv bud al bm] w fun x w'=>x=.returned (.tuple #[rvq r,.int .i64 e])/\Below w.heap.size w w':=by
 have HP:Hid (Pts w bm n D P f):=hp;have HT:Hid (Top f P m):=ht;have HR:Hid (kQ al m=(r,e)):=hr;have hbm:=hp.own.lt;clear hp ht hr;go_enter func111,ntmps111;go_wp2_with fail;refine(ajQ _).mono ?_;rintro e1 w1 ⟨rfl,hb1⟩;have hz1:w.heap.size+1+1<=w1.heap.size:=by have:=hb1.size;simpa using this
 have hz0:w.heap.size<w1.heap.size:=by omega
 have hz2:w.heap.size+1<w1.heap.size:=by omega
 have k0:w1.cell? ⟨w.heap.size,2,none⟩=some (.int .i64 al.1):=by rw[hb1.cell (p:=⟨w.heap.size,2,none⟩) (by simp <;> omega)];simp[go_sem]
 have k1:w1.cell? ⟨w.heap.size,3,none⟩=some (.int .i64 al.2):=by rw[hb1.cell (p:=⟨w.heap.size,3,none⟩) (by simp <;> omega)];simp[go_sem]
 have k4:w1.cell? ⟨w.heap.size,4,none⟩=some (.map (some bm)):=by rw[hb1.cell (p:=⟨w.heap.size,4,none⟩) (by simp <;> omega)];simp[go_sem]
 have G1:=bt (bal (ba _ _) _) hb1;go_wp2_with fail;refine(csQ _ _).mono ?_;rintro e2 w2 ⟨rfl,rfl⟩;have HP2:Hid (Pts ((w1.alloc (.cells #[.int .i64 1,.int .i64 1] 32)).alloc (.cells #[.map (some bm)] 205)) bm n D P f):=(HP.out.keep (bal (bal G1 _) _));go_wp2_with fail;refine(csX _ bm n D hR _ (by simp) (nc _ _ 0 _ (by simp) rfl) HP2.out.own hn).mono ?_;rintro e3 w3 ⟨v,ss,rfl,hperm,hrow,hb3⟩;obtain⟨xs,hxs⟩:∃ xs,ss.mergeSort (fun x y=>decide (x<=y))=xs:=⟨_,rfl⟩;have hlen:ss.length=xs.length:=by rw[<-hxs,List.length_mergeSort]
 have hmem:∀ q,q∈xs↔P q:=fun q=>by
  rw[<-hxs,List.mem_mergeSort,hperm.mem_iff,csZ HP2.out.own,HP2.out.is]
 have hxl:xs.length<=1048576:=by rw[<-hlen,hperm.length_eq];exact aQ (ctZ HP2.out.own) hn
 rw[hxs,hlen] at hrow;have HI:Hid (xQ w3 w3.heap.size w1.heap.size v xs):=iS rfl (by omega) hrow (by simp;omega);have HM:Hid (∀ q,q∈xs↔P q):=hmem;have hz3:w1.heap.size+1+1<=w3.heap.size:=by have:=hb3.size;simpa using this
 have HP3:Hid (Pts w3 bm n D P f):=HP2.out.keep hb3;have T3:TwoB w3 w1.heap.size (.int .i64 1) (.int .i64 1):=(((TwoB.new w1 (.int .i64 1) (.int .i64 1) 32 _ rfl).below (ba _ _)).below hb3);have R3:TwoB w3 (w.heap.size+1) (.int .i64 0) (.int .i64 0):=((((TwoB.new (w.alloc (.cells #[.int .i64 bud.1,.int .i64 bud.2,.int .i64 al.1,.int .i64 al.2,.map (some bm)] 207)) (.int .i64 0) (.int .i64 0) 32 _ (by simp)).below hb1).below (bal (ba _ _) _)).below hb3);have A0:w3.cell? ⟨w.heap.size,2,none⟩=some (.int .i64 al.1):=by rw[hb3.cell (p:=⟨w.heap.size,2,none⟩) (by simp <;> omega)];simp[go_sem,hz0,k0]
 have A1:w3.cell? ⟨w.heap.size,3,none⟩=some (.int .i64 al.2):=by rw[hb3.cell (p:=⟨w.heap.size,3,none⟩) (by simp <;> omega)];simp[go_sem,hz0,k1]
 have A4:w3.cell? ⟨w.heap.size,4,none⟩=some (.map (some bm)):=by rw[hb3.cell (p:=⟨w.heap.size,4,none⟩) (by simp <;> omega)];simp[go_sem,hz0,k4]
 have B3:Below w.heap.size w w3:=bt (bal (bal G1 _) _) hb3;have T0:Top f (fun q=>q∈xs.take 0) uZ:=(wT f).congr (fun q=>by simp) (fun _ _=>rfl);obtain⟨a,c,rfl,hc,_⟩:=id HI.out;clear hperm hrow hmem hxs hlen k0 k1 k4;go_wp2_with fail
 go_loopw [14] (fun s wr=>∃ (i:Nat) (mi:Rq),s=.int .i64 (i:Int)/\i<=xs.length/\Hid (Top f (fun q=>q∈xs.take i) mi)/\Hid (w3.grownBy wr (some w1.heap.size))/\Hid (TwoB wr w1.heap.size (.int .i64 mi.1) (.int .i64 mi.2))) (fun s _=>xs.length - (intOf s).toNat)
 case atStart=>exact⟨0,uZ,rfl,mQ _,T0,cX _ _,T3⟩
 case round =>
  obtain⟨i,mi,rfl,hi,HTi,HG,HB⟩:=hrel;have a0:=HG.out.cell A0 (by simp;omega);have a1:=HG.out.cell A1 (by simp;omega);have a4:=HG.out.cell A4 (by simp;omega);have hzr:=HG.out.size;obtain⟨c0,c1,f0,f1,hlt⟩:=HB.out;by_cases h1:i<xs.length
  ·obtain⟨b,o,z,rfl,hb,hzi,hcz⟩:=ctQ (csJ HI.out HG.out) h1
   have HZ:Hid (xs[i]? = some z):=hzi;have hPz:P z:=(HM.out z).1 (vX hzi);have hok:oQ (f z):=HT.out.oks z hPz;have hlk:=fun W (hW:Below wr.heap.size wr W)=>((HP3.out.gb HG.out (by simp;omega)).keep hW).look hPz;have hlk0:=hlk wr (uQ _ _);clear hzi;cases hle:decide (wX (f z) mi) with
   | true =>
    have km:=mP (f z) mi hok HTi.out.ok false hle;have HL:Hid (wX (f z) mi):=(eH hle:wX (f z) mi);clear hle;go_wp2_with fail;refine(km _).mono ?_;rintro e4 w4 ⟨rfl,hb4⟩;have hs4:=hb4.size;go_wp2_with fail
    go_roundw
    case rel=>exact⟨i+1,mi,by go_num,by omega,by have:=ajX HTi.out HZ.out hok;rw[zQ HL.out] at this;exact this,xY HG.out (yD (bt (ba _ _) hb4)),(HB.out.below (ba _ _)).below hb4⟩
    case measure=>simp[intOf];omega
   | false =>
    have km:=mP (f z) mi hok HTi.out.ok true hle;have HL:Hid (¬ wX (f z) mi):=(wL hle:¬ wX (f z) mi);clear hle;go_wp2_with fail;refine(km _).mono ?_;rintro e4 w4 ⟨rfl,hb4⟩;have hs4:=hb4.size;have HB4:Hid (TwoB w4 w1.heap.size (.int .i64 mi.1) (.int .i64 mi.2)):=(HB.out.below (ba _ _)).below hb4;obtain⟨d0,d1,g0,g1,hlt4⟩:=HB4.out;have HN4:TwoB w4 wr.heap.size (.int .i64 (f z).1) (.int .i64 (f z).2):=(TwoB.new wr _ _ 32 _ rfl).below hb4;obtain⟨n0,n1,_,_,hltn⟩:=HN4;go_wp2_with fail
    go_roundw
    case rel=>exact⟨i+1,f z,by go_num,by omega,by have:=ajX HTi.out HZ.out hok;rw[qQ HL.out] at this;exact this,sQ (sQ (xY HG.out (yD (bt (ba _ _) hb4))) _ _) _ _,HB4.out.put _ _⟩
    case measure=>simp[intOf];omega
  ·have hi':i=xs.length:=by omega
   subst hi'
   have hmi:mi=m:=by
    have h2:=HTi.out;rw[pL] at h2;exact(h2.congr HM.out (fun _ _=>rfl)).uniq HT.out
   subst hmi;have kt:=rF al.1 al.2 mi.1 mi.2 r.1 r.2 e (by rw[xP,HR.out]);have R4:=HB.out
   have HRr:Hid (TwoB wr (w.heap.size+1) (.int .i64 0) (.int .i64 0)):=by
    have hk:wr.heap[w.heap.size+1]? = w3.heap[w.heap.size+1]?:=HG.out.block _ R3.lt (by simp;omega);exact⟨(dZ (w:=w3) (a:=⟨w.heap.size+1,0,none⟩) hk).trans R3.c0,(dZ (w:=w3) (a:=⟨w.heap.size+1,1,none⟩) hk).trans R3.c1,(uJ (w:=w3) (a:=⟨w.heap.size+1,0,none⟩) hk).trans R3.f0,(uJ (w:=w3) (a:=⟨w.heap.size+1,1,none⟩) hk).trans R3.f1,by omega⟩
   go_wp2_with fail;refine(kt _).mono ?_;rintro e5 w5 ⟨rfl,hb5⟩;obtain⟨r0,r1,q0,q1,hlt5⟩:=HRr.out.below hb5;have Bz:Below w.heap.size w w5:=bt (B3.trans (cG HG.out (by omega) (by omega))) hb5;go_wp2_with fail;exact yQ (v:=.tuple #[rvq r,.int .i64 e]) (by simp[results,results111,go_sem,r0,r1]) rfl ⟨rfl,bs (bs Bz (by simp) _) (by simp) _⟩
abbrev zp:Value:=.agg #[.int .i64 0,.int .i64 0,.int .i64 0,.int .i64 0,.map none]
def iD (bud al m:Rq):Int:=if (kQ al m).2=0 then (if wX (kQ al m).1 bud then 0 else 10) else (kQ al m).2
structure FivB (w:World) (R:Nat) (a b c d e:Value):Prop where
 c0:w.cell? ⟨R,0,none⟩=some a
 c1:w.cell? ⟨R,1,none⟩=some b
 c2:w.cell? ⟨R,2,none⟩=some c
 c3:w.cell? ⟨R,3,none⟩=some d
 c4:w.cell? ⟨R,4,none⟩=some e
 f0:w.frozen? ⟨R,0,none⟩=false
 f1:w.frozen? ⟨R,1,none⟩=false
 f2:w.frozen? ⟨R,2,none⟩=false
 f3:w.frozen? ⟨R,3,none⟩=false
 f4:w.frozen? ⟨R,4,none⟩=false
 lt:R<w.heap.size
theorem FivB.gb {w w':World}{R:Nat}{a b c d e:Value}{r:Option Nat}(h:FivB w R a b c d e)(hg:w.grownBy w' r)(hne:some R≠r):FivB w' R a b c d e:=by
 have hk:w'.heap[R]? = w.heap[R]?:=hg.block R h.lt hne;have hc:=fun o=>dZ (w:=w) (w':=w') (a:=⟨R,o,none⟩) hk;have hf:=fun o=>uJ (w:=w) (w':=w') (a:=⟨R,o,none⟩) hk;exact⟨(hc 0).trans h.c0,(hc 1).trans h.c1,(hc 2).trans h.c2,(hc 3).trans h.c3,(hc 4).trans h.c4,(hf 0).trans h.f0,(hf 1).trans h.f1,(hf 2).trans h.f2,(hf 3).trans h.f3,(hf 4).trans h.f4,zX h.lt hg.size⟩
theorem FivB.below {w w':World}{R:Nat}{a b c d e:Value}(h:FivB w R a b c d e)(hb:Below w.heap.size w w'):FivB w' R a b c d e:=h.gb (pG hb) (by simp)
theorem FivB.new (w:World)(a b c d e:Value)(t:TypeId)(N:Nat)(hN:N=w.heap.size):FivB (w.alloc (.cells #[a,b,c,d,e] t)) N a b c d e :=
 ⟨nc _ _ 0 _ hN rfl,nc _ _ 1 _ hN rfl,nc _ _ 2 _ hN rfl,nc _ _ 3 _ hN rfl,nc _ _ 4 _ hN rfl,nf _ _ 0 hN,nf _ _ 1 hN,nf _ _ 2 hN,nf _ _ 3 hN,nf _ _ 4 hN,by simp;omega⟩
theorem nJ {w w1:World}{R:Nat}(h:Below w.heap.size w w1)(hR:w.heap.size<=R)(a b c d e:Value):Below w.heap.size w (((((w1.setCell ⟨R,0,none⟩ a).setCell ⟨R,1,none⟩ b).setCell ⟨R,2,none⟩ c).setCell ⟨R,3,none⟩ d).setCell ⟨R,4,none⟩ e) :=
 bs (bs (bs (bs (bs h hR _) hR _) hR _) hR _) hR _
theorem aB (bud al:Rq)(bm n:Nat)(D:DataW Value)(P:Int->Prop)(f:Int->Rq)(w:World)(hp:Pts w bm n D P f)(hn:n<=1048576)(m:Rq)(ht:Top f P m)(ha:oQ al)(hbu:oQ bud)(er:Int)(hr:iD bud al m=er) :
  Calls prog 192 #[pv bud al bm] w fun x w'=>x=.returned (.tuple #[if er=0 then pv bud al bm else zp,.int .i64 er])/\Below w.heap.size w w':=by
 obtain⟨⟨r,e⟩,hm⟩:∃ y,kQ al m=y:=⟨_,rfl⟩;have ks:=fun W (hW:Pts W bm n D P f)=>ctJ bud al bm n D P f W hW hn m ht r e hm;have HP:Hid (Pts w bm n D P f):=hp
 have hcase:(e=4/\er=4)\/(e=0/\oQ r/\((wX r bud/\er=0)\/(¬ wX r bud/\er=10))):=by
  unfold iD at hr;rw[hm] at hr;rcases jH ha ht.ok with⟨h1,h2,_⟩|h1
  ·rw[hm] at h1 h2
   simp only at h1 h2;right;refine⟨h1,h2,?_⟩;rw[zQ h1] at hr;by_cases c:wX r bud
   ·left;rw[zQ c] at hr;exact⟨c,hr.symm⟩
   ·right;rw[qQ c] at hr;exact⟨c,hr.symm⟩
  ·rw[hm] at h1
   simp only[cQ] at h1;obtain⟨_,rfl⟩:=h1;left;simpa using hr.symm
 clear hp ht hr hm;have P0:Hid (Pts ((w.alloc (.cells #[.int .i64 bud.1,.int .i64 bud.2,.int .i64 al.1,.int .i64 al.2,.map (some bm)] 207)).alloc (.cells #[.int .i64 0,.int .i64 0,.int .i64 0,.int .i64 0,.map none] 207)) bm n D P f):=HP.out.keep (bal (ba _ _) _);have V0:Hid (FivB ((w.alloc (.cells #[.int .i64 bud.1,.int .i64 bud.2,.int .i64 al.1,.int .i64 al.2,.map (some bm)] 207)).alloc (.cells #[.int .i64 0,.int .i64 0,.int .i64 0,.int .i64 0,.map none] 207)) w.heap.size (.int .i64 bud.1) (.int .i64 bud.2) (.int .i64 al.1) (.int .i64 al.2) (.map (some bm))):=(FivB.new _ _ _ _ _ _ 207 _ rfl).below (ba _ _);have V1:Hid (FivB ((w.alloc (.cells #[.int .i64 bud.1,.int .i64 bud.2,.int .i64 al.1,.int .i64 al.2,.map (some bm)] 207)).alloc (.cells #[.int .i64 0,.int .i64 0,.int .i64 0,.int .i64 0,.map none] 207)) (w.heap.size+1) (.int .i64 0) (.int .i64 0) (.int .i64 0) (.int .i64 0) (.map none)):=FivB.new _ _ _ _ _ _ 207 _ (by simp);go_enter func192,ntmps192;go_wp2_with fail;refine(ks _ P0.out).mono ?_;rintro e1 w1 ⟨rfl,hb1⟩;have Bw:=bt (bal (ba _ _) _) hb1;obtain⟨c0,c1,c2,c3,c4,f0,f1,f2,f3,f4,hl0⟩:=V0.out.below hb1;obtain⟨d0,d1,d2,d3,d4,g0,g1,g2,g3,g4,hl1⟩:=V1.out.below hb1;rcases hcase with⟨rfl,rfl⟩|⟨rfl,hok,⟨hle,rfl⟩|⟨hle,rfl⟩⟩
 ·go_wp2_with fail
  exact yQ (v:=.tuple #[zp,.int .i64 4]) (by simp[results,results192,go_sem,d0,d1,d2,d3,d4,hl1]) rfl ⟨by simp,bal (nJ Bw (by omega) _ _ _ _ _) _⟩
 ·have km:=mP r bud hok hbu false (by simpa using hle)
  go_wp2_with fail;refine(km _).mono ?_;rintro e2 w2 ⟨rfl,hb2⟩;obtain⟨c0,c1,c2,c3,c4,f0,f1,f2,f3,f4,hl0⟩:=((V0.out.below hb1).below (ba _ _)).below hb2;obtain⟨d0,d1,d2,d3,d4,g0,g1,g2,g3,g4,hl1⟩:=((V1.out.below hb1).below (ba _ _)).below hb2;go_wp2_with fail;exact yQ (v:=.tuple #[pv bud al bm,.int .i64 0]) (by simp[results,results192,go_sem,d0,d1,d2,d3,d4]) rfl ⟨by simp,nJ (bt (bal Bw _) hb2) (by omega) _ _ _ _ _⟩
 ·have km:=mP r bud hok hbu true (by simpa using hle)
  go_wp2_with fail;refine(km _).mono ?_;rintro e2 w2 ⟨rfl,hb2⟩;obtain⟨d0,d1,d2,d3,d4,g0,g1,g2,g3,g4,hl1⟩:=((V1.out.below hb1).below (ba _ _)).below hb2;go_wp2_with fail;exact yQ (v:=.tuple #[zp,.int .i64 10]) (by simp[results,results192,go_sem,d0,d1,d2,d3,d4]) rfl ⟨by simp,nJ (bt (bal Bw _) hb2) (by omega) _ _ _ _ _⟩
def eL (bud al ls m:Rq):Int:=if (kQ al ls).2=0 then iD bud (kQ al ls).1 m else (kQ al ls).2
theorem cuQ (bud al ls:Rq)(bm n:Nat)(D:DataW Value)(P:Int->Prop)(f:Int->Rq)(w:World)(hp:Pts w bm n D P f)(hn:n<=1048576)(m:Rq)(ht:Top f P m)(ha:oQ al)(hbu:oQ bud)(hls:oQ ls)(er:Int)(hr:eL bud al ls m=er) :
  Calls prog 162 #[pv bud al bm,rvq ls] w fun x w'=>x=.returned (.tuple #[if er=0 then pv bud (kQ al ls).1 bm else zp,.int .i64 er])/\Below w.heap.size w w':=by
 obtain⟨⟨q,e⟩,hm⟩:∃ y,kQ al ls=y:=⟨_,rfl⟩;have kt:=rF al.1 al.2 ls.1 ls.2 q.1 q.2 e (by rw[xP,hm]);have HP:Hid (Pts w bm n D P f):=hp
 have hcase:(e=4/\er=4)\/(e=0/\oQ q/\iD bud q m=er):=by
  unfold eL at hr;rw[hm] at hr;rcases jH ha hls with⟨h1,h2,_⟩|h1
  ·rw[hm] at h1 h2
   simp only at h1 h2 hr;rw[zQ h1] at hr;exact .inr ⟨h1,h2,hr⟩
  ·rw[hm] at h1
   simp only[cQ] at h1;obtain⟨_,rfl⟩:=h1;left;simpa using hr.symm
 rw[hm];clear hp hr hm;have V2:Hid (FivB (((w.alloc (.cells #[.int .i64 bud.1,.int .i64 bud.2,.int .i64 al.1,.int .i64 al.2,.map (some bm)] 207)).alloc (.cells #[.int .i64 ls.1,.int .i64 ls.2] 32)).alloc (.cells #[.int .i64 0,.int .i64 0,.int .i64 0,.int .i64 0,.map none] 207)) (w.heap.size+1+1) (.int .i64 0) (.int .i64 0) (.int .i64 0) (.int .i64 0) (.map none)):=FivB.new _ _ _ _ _ _ 207 _ (by simp);have V0:Hid (FivB (((w.alloc (.cells #[.int .i64 bud.1,.int .i64 bud.2,.int .i64 al.1,.int .i64 al.2,.map (some bm)] 207)).alloc (.cells #[.int .i64 ls.1,.int .i64 ls.2] 32)).alloc (.cells #[.int .i64 0,.int .i64 0,.int .i64 0,.int .i64 0,.map none] 207)) w.heap.size (.int .i64 bud.1) (.int .i64 bud.2) (.int .i64 al.1) (.int .i64 al.2) (.map (some bm))):=((FivB.new _ _ _ _ _ _ 207 _ rfl).below (ba _ _)).below (ba _ _);go_enter func162,ntmps162;go_wp2_with fail;refine(kt _).mono ?_;rintro e1 w1 ⟨rfl,hb1⟩;have Bw:=bt (bal (bal (ba _ _) _) _) hb1;obtain⟨c0,c1,c2,c3,c4,f0,f1,f2,f3,f4,hl0⟩:=V0.out.below hb1;obtain⟨d0,d1,d2,d3,d4,g0,g1,g2,g3,g4,hl1⟩:=V2.out.below hb1;rcases hcase with⟨rfl,rfl⟩|⟨rfl,hok,hck⟩
 ·go_wp2_with fail
  exact yQ (v:=.tuple #[zp,.int .i64 4]) (by simp[results,results162,go_sem,d0,d1,d2,d3,d4,hl1]) rfl ⟨by simp,bal (nJ Bw (by omega) _ _ _ _ _) _⟩
 ·have kc:=fun W (hW:Pts W bm n D P f)=>aB bud q bm n D P f W hW hn m ht hok hbu er hck
  clear hck;have hbm:=HP.out.own.lt;have P1:Hid (Pts w1 bm n D P f):=HP.out.keep Bw;have hg:w1.grownBy (((w1.setCell ⟨w.heap.size,2,none⟩ (.int .i64 q.1)).setCell ⟨w.heap.size,3,none⟩ (.int .i64 q.2)).alloc (.cells #[.int .i64 q.1,.int .i64 q.2] 32)) (some w.heap.size):=eU (sQ (sQ (cX _ _) _ _) _ _) _;have HX:Hid (FivB (((w1.setCell ⟨w.heap.size,2,none⟩ (.int .i64 q.1)).setCell ⟨w.heap.size,3,none⟩ (.int .i64 q.2)).alloc (.cells #[.int .i64 q.1,.int .i64 q.2] 32)) (w.heap.size+1+1) (.int .i64 0) (.int .i64 0) (.int .i64 0) (.int .i64 0) (.map none)):=(V2.out.below hb1).gb hg (by simp;omega);have P2:Hid (Pts (((w1.setCell ⟨w.heap.size,2,none⟩ (.int .i64 q.1)).setCell ⟨w.heap.size,3,none⟩ (.int .i64 q.2)).alloc (.cells #[.int .i64 q.1,.int .i64 q.2] 32)) bm n D P f):=P1.out.gb hg (by simp;omega);have BX:Below w.heap.size w (((w1.setCell ⟨w.heap.size,2,none⟩ (.int .i64 q.1)).setCell ⟨w.heap.size,3,none⟩ (.int .i64 q.2)).alloc (.cells #[.int .i64 q.1,.int .i64 q.2] 32)):=bal (bs (bs Bw (jQ _) _) (jQ _) _) _;clear hg;by_cases her:er=0
  ·subst her
   simp only[↓reduceIte] at kc;go_wp2_with fail;refine(kc _ P2.out).mono ?_;rintro e2 w2 ⟨rfl,hb2⟩;obtain⟨x0,x1,x2,x3,x4,y0,y1,y2,y3,y4,hx⟩:=HX.out.below hb2;go_wp2_with fail;exact yQ (v:=.tuple #[pv bud q bm,.int .i64 0]) (by simp[results,results162,go_sem,x0,x1,x2,x3,x4]) rfl ⟨by simp,nJ (bt BX hb2) (by omega) _ _ _ _ _⟩
  ·simp only[her,↓reduceIte] at kc
   go_wp2_with fail;refine(kc _ P2.out).mono ?_;rintro e2 w2 ⟨rfl,hb2⟩;obtain⟨x0,x1,x2,x3,x4,y0,y1,y2,y3,y4,hx⟩:=HX.out.below hb2;go_wp2_with fail;exact yQ (v:=.tuple #[zp,.int .i64 er]) (by simp[results,results162,go_sem,x0,x1,x2,x3,x4]) rfl ⟨by simp,nJ (bt BX hb2) (by omega) _ _ _ _ _⟩
theorem Pts.put {w:World}{b n:Nat}{D:DataW Value}{P:Int->Prop}{f:Int->Rq}(h:Pts w b n D P f)(hn:n<=1048576){z:Int}(hz:0<=z/\z<=1073741824)(q:Rq) :
  ∃ w',(Instr.mapUpdate 205 (.map (some b)) (.int .i64 z) (rvq q)).run prog w=.ok () w'/\Pts w' b (n+1) (D.put (.int .i64 z) (.held (rvq q))) (fun y=>P y\/y=z) (fun y=>if y=z then q else f y)/\w.grownBy w' (some b):=by
 have hwf:(Lit.int .i64 z).wf=true:=WalkArith.wf_i64 (by omega);obtain⟨w',hrun,hown,hg⟩:=h.own.update xI underlying205 (by unfold maxLen;omega) (val:=rvq q) (d:=.held (rvq q)) (ps:=[]) (Go.Maps.keyOf_int_mk underlying3 hwf) rfl;refine⟨w',hrun,⟨hown,fun y=>?_,fun y hy=>?_,fun y hy=>?_⟩,hg⟩
 ·by_cases hy:y=z
  ·subst hy;simp[Maps.has_put_same h.own.isMap (k:=.int .i64 y) True.intro]
  ·rw[Maps.has_put_other (by simpa using hy),h.is y];simp[hy]
 ·by_cases hyz:y=z
  ·subst hyz;simp[Maps.atKey_put_same (k:=.int .i64 y) h.own.isMap True.intro]
  ·rw[Maps.atKey_put_other (by simpa using hyz),h.el y (by rcases hy with hy|hy;exact hy;exact absurd hy hyz)];simp[hyz]
 ·rcases hy with hy|rfl
  ·exact h.rng y hy
  ·exact hz
theorem Pts.lookOk {w:World}{b n:Nat}{D:DataW Value}{P:Int->Prop}{f:Int->Rq}(h:Pts w b n D P f){z:Int}(hr:0<=z/\z<=1073741824) :
  (P z/\(Instr.lookup 205 (.map (some b)) (.int .i64 z) true).run prog w=.ok (.tuple #[rvq (f z),.bool true]) w)\/(¬ P z/\(Instr.lookup 205 (.map (some b)) (.int .i64 z) true).run prog w=.ok (.tuple #[rv 0 0,.bool false]) w):=by
 have hwf:(Lit.int .i64 z).wf=true:=WalkArith.wf_i64 (by omega);obtain⟨v',ps,hrun,hat⟩:=h.own.look_ok xI underlying205 (aiJ w) (zd:=.held (rv 0 0)) (zp:=[]) rfl (Go.Maps.keyOf_int_mk underlying3 hwf);cases hh:Maps.has D (.int .i64 z) with
 | true =>
  left;have hz:=(h.is z).1 hh;rw[h.el z hz] at hat;simp[hR] at hat;exact⟨hz,by rw[hrun,hat.1,hh]⟩
 | false =>
  right;have hz:¬ P z:=fun c=>by rw[(h.is z).2 c] at hh;cases hh
  have h2:D.atKey (.int .i64 z) (.held (rv 0 0))=.held (rv 0 0):=Maps.atKey_of_not_has hh _;rw[h2] at hat;simp[hR] at hat;exact⟨hz,by rw[hrun,hat.1,hh]⟩
def vH (bud al fp ls m:Rq) (there:Bool) (cnt:Nat) (part:Int):Int :=
 if part<0\/1073741824<part then 3 else if there=false/\64<=cnt then 5 else if (kQ fp ls).2=0 then iD bud al m else (kQ fp ls).2
def bB (w:World) (bud al:Rq) (n cnt:Nat) (there:Bool) (P:Int->Prop) (f:Int->Rq) (part:Int) (q:Rq) (er:Int):Ending->World->Prop:=fun x w' =>
 Below w.heap.size w w'/\((er≠0/\x=.returned (.tuple #[zp,.int .i64 er])) \/
  (er=0/\∃ b D,x=.returned (.tuple #[pv bud al b,.int .i64 0])/\w.heap.size<=b/\Pts w' b (n+1) D (fun y=>P y\/y=part) (fun y=>if y=part then q else f y)/\Maps.size D=if there then cnt else cnt+1))
theorem Pts.new (w:World)(f:Int->Rq):Pts (w.alloc (.map #[] 0)) w.heap.size 0 (.map []) (fun _=>False) f :=
 ⟨World.ownsMap_made _ _ _ _,fun z=>by simp[Maps.has],fun _ h=>h.elim,fun _ h=>h.elim⟩
theorem cuX (bud al ls fp:Rq)(bm n cnt:Nat)(D:DataW Value)(P:Int->Prop)(f:Int->Rq)(part:Int)(w:World)(hp:Pts w bm n D P f)(hn:n+1<=1048576)(hsz:Maps.size D=cnt)(hpr:0<=part/\part<=1073741824)(hth:P part)(hfp:f part=fp)(hof:oQ fp)(m:Rq)
  (ht:(kQ fp ls).2=0->Top (fun y=>if y=part then (kQ fp ls).1 else f y) (fun y=>P y\/y=part) m) (ha:oQ al) (hbu:oQ bud) (hls:oQ ls) (er:Int) (hr:vH bud al fp ls m true cnt part=er) :
  Calls prog 163 #[pv bud al bm,.int .i64 part,rvq ls] w (bB w bud al n cnt true P f part (kQ fp ls).1 er):=by
 have hbm:=hp.own.lt;have hr':(if true=false/\64<=cnt then 5 else if (kQ fp ls).2=0 then iD bud al m else (kQ fp ls).2)=er:=by rw[<-hr,vH,qQ (show ¬ (part<0\/1073741824<part) by omega)]
 clear hr;obtain⟨⟨q,e⟩,hm⟩:∃ y,kQ fp ls=y:=⟨_,rfl⟩;have kt:=rF fp.1 fp.2 ls.1 ls.2 q.1 q.2 e (by rw[xP,hm]);have HP:Hid (Pts w bm n D P f):=hp
 have hcase:(true=false/\64<=cnt/\er=5)\/(¬ (true=false/\64<=cnt)/\e=4/\er=4)\/(¬ (true=false/\64<=cnt)/\e=0/\oQ q/\iD bud al m=er):=by
  rw[hm] at hr';by_cases c:true=false/\64<=cnt
  ·rw[zQ c] at hr';exact .inl ⟨c.1,c.2,hr'.symm⟩
  rw[qQ c] at hr';rcases jH hof hls with⟨h1,h2,_⟩|h1
  ·rw[hm] at h1 h2
   simp only at h1 h2 hr';rw[zQ h1] at hr';exact .inr (.inr ⟨c,h1,h2,hr'⟩)
  ·rw[hm] at h1
   simp only[cQ] at h1;obtain⟨_,rfl⟩:=h1;right;left;exact⟨c,rfl,by simpa using hr'.symm⟩
 rw[hm] at ht;rw[hm];simp only at ht;clear hp hr' hm;obtain⟨w0,hw0⟩:∃ w0,((w.alloc (.cells #[.int .i64 bud.1,.int .i64 bud.2,.int .i64 al.1,.int .i64 al.2,.map (some bm)] 207)).alloc (.cells #[.int .i64 ls.1,.int .i64 ls.2] 32)).alloc (.cells #[.int .i64 0,.int .i64 0,.int .i64 0,.int .i64 0,.map none] 207)=w0:=⟨_,rfl⟩;have hz0:w0.heap.size=w.heap.size+1+1+1:=by rw[<-hw0];simp
 have B0:Below w.heap.size w w0:=by rw[<-hw0];exact bal (bal (ba _ _) _) _
 have V0:Hid (FivB w0 w.heap.size (.int .i64 bud.1) (.int .i64 bud.2) (.int .i64 al.1) (.int .i64 al.2) (.map (some bm))):=by rw[<-hw0];exact((FivB.new _ _ _ _ _ _ 207 _ rfl).below (ba _ _)).below (ba _ _)
 have V1:Hid (TwoB w0 (w.heap.size+1) (.int .i64 ls.1) (.int .i64 ls.2)):=by rw[<-hw0];exact(TwoB.new _ _ _ 32 _ (by simp)).below (ba _ _)
 have V2:Hid (FivB w0 (w.heap.size+1+1) (.int .i64 0) (.int .i64 0) (.int .i64 0) (.int .i64 0) (.map none)):=by rw[<-hw0];exact FivB.new _ _ _ _ _ _ 207 _ (by simp)
 have P0:Hid (Pts w0 bm n D P f):=HP.out.keep B0;have q1:¬ part<0:=by omega
 have q2:¬ 1073741824<part:=by omega
 have hlk:(Instr.lookup 205 (.map (some bm)) (.int .i64 part) true).run prog w0=.ok (.tuple #[rvq fp,.bool true]) w0:=by
  rcases P0.out.lookOk hpr with⟨h1,h2⟩|⟨h1,h2⟩
  ·rw[h2,hfp]
  ·exact absurd hth h1
 obtain⟨c0,c1,c2,c3,c4,f0,f1,f2,f3,f4,hl0⟩:=V0.out;obtain⟨l0,l1,lf0,lf1,hl1⟩:=V1.out;obtain⟨d0,d1,d2,d3,d4,g0,g1,g2,g3,g4,hl2⟩:=V2.out;go_enter func163,ntmps163;obtain⟨X,hX⟩:∃ X,w0.alloc (.cells #[.int .i64 fp.1,.int .i64 fp.2] 32)=X:=⟨_,rfl⟩;have BX:Below w0.heap.size w0 X:=by rw[<-hX];exact ba _ _
 have VX0:Hid (FivB X w.heap.size (.int .i64 bud.1) (.int .i64 bud.2) (.int .i64 al.1) (.int .i64 al.2) (.map (some bm))):=V0.out.below BX;have VX1:Hid (TwoB X (w.heap.size+1) (.int .i64 ls.1) (.int .i64 ls.2)):=V1.out.below BX;have VX2:Hid (FivB X (w.heap.size+1+1) (.int .i64 0) (.int .i64 0) (.int .i64 0) (.int .i64 0) (.map none)):=V2.out.below BX;have VX3:Hid (TwoB X (w.heap.size+1+1+1) (.int .i64 fp.1) (.int .i64 fp.2)):=by rw[<-hX];exact TwoB.new _ _ _ 32 _ hz0.symm
 have PX:Hid (Pts X bm n D P f):=P0.out.keep BX;have BwX:Below w.heap.size w X:=bt B0 BX;clear c0 c1 c2 c3 l0 l1 d0 d1 d2 d3 d4 lf0 lf1 f0 f1 f2 f3 f4 g0 g1 g2 g3 g4;obtain⟨x0,x1,x2,x3,x4,xf0,xf1,xf2,xf3,xf4,hlx0⟩:=VX0.out;obtain⟨l0,l1,lf0,lf1,hlx1⟩:=VX1.out;obtain⟨d0,d1,d2,d3,d4,g0,g1,g2,g3,g4,hlx2⟩:=VX2.out;obtain⟨t0,t1,tf0,tf1,hlx3⟩:=VX3.out;rcases hcase with⟨hca,hcb,rfl⟩|⟨hca,rfl,rfl⟩|⟨hca,rfl,hok,hck⟩
 ·cases hca
 ·go_wp2_with fail
  refine(kt _).mono ?_;rintro e2 w2 ⟨rfl,hb2⟩;have Bw2:=bt BwX hb2;obtain⟨m0,m1,m2,m3,m4,h0,h1,h2,h3,h4,hl5⟩:=VX2.out.below hb2;go_wp2_with fail;exact yQ (v:=.tuple #[zp,.int .i64 4]) (by simp[results,results163,go_sem,m0,m1,m2,m3,m4,hl5]) rfl ⟨bal (nJ Bw2 (by omega) _ _ _ _ _) _,.inl ⟨by decide,rfl⟩⟩
 ·go_wp2_with fail
  refine(kt _).mono ?_;rintro e2 w2 ⟨rfl,hb2⟩;obtain⟨W3,hW3⟩:∃ W3,w2.alloc (.cells #[.int .i64 q.1,.int .i64 q.2] 32)=W3:=⟨_,rfl⟩;have B3:Below X.heap.size X W3:=by rw[<-hW3];exact bal hb2 _
  have T3:Hid (TwoB W3 w2.heap.size (.int .i64 q.1) (.int .i64 q.2)):=by rw[<-hW3];exact TwoB.new _ _ _ 32 _ rfl
  have P3:Hid (Pts W3 bm n D P f):=PX.out.keep B3;obtain⟨n0,n1,n2,n3,n4,nf0,nf1,nf2,nf3,nf4,hn0⟩:=VX0.out.below B3;go_wp2_with fail;refine(aiQ hR bm n D _ P3.out.own).mono ?_;rintro e4 w4 ⟨rfl,hcl,hb4,hlt4⟩;have P4:Hid (Pts w4 W3.heap.size n D P f):=⟨hcl,P3.out.is,P3.out.el,P3.out.rng⟩;have V40:Hid (FivB w4 w.heap.size (.int .i64 bud.1) (.int .i64 bud.2) (.int .i64 al.1) (.int .i64 al.2) (.map (some bm))):=(VX0.out.below B3).below hb4;have hs3:=B3.size;have hs4:=hb4.size;have hsx:=BwX.size;obtain⟨Y,hY⟩:∃ Y,w4.setCell ⟨w.heap.size,4,none⟩ (.map (some W3.heap.size))=Y:=⟨_,rfl⟩;have gY:w4.grownBy Y (some w.heap.size):=by rw[<-hY];exact sQ (cX _ _) _ _
  have PY:Hid (Pts Y W3.heap.size n D P f):=P4.out.gb gY (by simp;omega);obtain⟨w5,hup,P5,g5⟩:=PY.out.put (by omega) hpr q
  have T5:TwoB Y w2.heap.size (.int .i64 q.1) (.int .i64 q.2):=by
   obtain⟨a1,a2,a3,a4,a5⟩:=T3.out.below hb4;have hk:Y.heap[w2.heap.size]? = w4.heap[w2.heap.size]?:=gY.block _ a5 (by have:=hb2.size;simp;omega);exact⟨(dZ (w:=w4) (a:=⟨w2.heap.size,0,none⟩) hk).trans a1,(dZ (w:=w4) (a:=⟨w2.heap.size,1,none⟩) hk).trans a2,(uJ (w:=w4) (a:=⟨w2.heap.size,0,none⟩) hk).trans a3,(uJ (w:=w4) (a:=⟨w2.heap.size,1,none⟩) hk).trans a4,zX a5 gY.size⟩
  have VY:Hid (FivB Y w.heap.size (.int .i64 bud.1) (.int .i64 bud.2) (.int .i64 al.1) (.int .i64 al.2) (.map (some W3.heap.size))):=by
   rw[<-hY];obtain⟨a0,a1,a2,a3,a4,b0,b1,b2,b3,b4,b5⟩:=V40.out;exact⟨(rQ (by simp)).trans a0,(rQ (by simp)).trans a1,(rQ (by simp)).trans a2,(rQ (by simp)).trans a3,gV a4,cZ.trans b0,cZ.trans b1,cZ.trans b2,cZ.trans b3,cZ.trans b4,by simpa using b5⟩
  have V5:Hid (FivB w5 w.heap.size (.int .i64 bud.1) (.int .i64 bud.2) (.int .i64 al.1) (.int .i64 al.2) (.map (some W3.heap.size))):=VY.out.gb g5 (by simp;omega);have R5:Hid (FivB w5 (w.heap.size+1+1) (.int .i64 0) (.int .i64 0) (.int .i64 0) (.int .i64 0) (.map none)):=((((VX2.out.below B3).below hb4).gb gY (by simp;omega)).gb g5 (by have:=hlx2;simp;omega));have B5:Below w.heap.size w w5:=((bt BwX (bt B3 hb4)).trans (cG gY (jQ _) (by omega))).trans (cG g5 (by omega) (by have:=gY.size;omega));obtain⟨tq0,tq1,_,_,tql⟩:=T5;obtain⟨z0,z1,z2,z3,z4,zf0,zf1,zf2,zf3,zf4,hz⟩:=V40.out;obtain⟨u0,u1,u2,u3,u4,uf0,uf1,uf2,uf3,uf4,hu⟩:=VY.out;obtain⟨v0,v1,v2,v3,v4,vf0,vf1,vf2,vf3,vf4,hv⟩:=V5.out;have kc:=fun W (hW:Pts W W3.heap.size (n+1) _ (fun y=>P y\/y=part) (fun y=>if y=part then q else f y))=>aB bud al W3.heap.size (n+1) (D.put (.int .i64 part) (.held (rvq q))) _ _ W hW (by omega) m (ht (by simp)) ha hbu er hck;have HP5:=P5
  have HSZ:Hid (Maps.size (D.put (.int .i64 part) (.held (rvq q)))=if true then cnt else cnt+1):=by
   rw[Hid,Maps.size_put (HP.out.own.tidy xI),hsz];rw[(HP.out.is part).2 hth]
  clear hck ht gY g5 hcl P5;by_cases her:er=0
  ·subst her
   simp only[↓reduceIte] at kc;go_wp2_with fail;refine(kc _ HP5).mono ?_;rintro e6 w6 ⟨rfl,hb6⟩;obtain⟨s0,s1,s2,s3,s4,sf0,sf1,sf2,sf3,sf4,hs⟩:=R5.out.below hb6;go_wp2_with fail;exact yQ (v:=.tuple #[pv bud al W3.heap.size,.int .i64 0]) (by simp[results,results163,go_sem,s0,s1,s2,s3,s4]) rfl ⟨nJ (bt B5 hb6) (by omega) _ _ _ _ _,.inr ⟨rfl,W3.heap.size,_,rfl,by omega,(HP5.keep hb6).gb (sQ (sQ (sQ (sQ (sQ (cX _ _) _ _) _ _) _ _) _ _) _ _) (by have:=hlx2;simp;omega),HSZ.out⟩⟩
  ·simp only[her,↓reduceIte] at kc
   go_wp2_with fail;refine(kc _ HP5).mono ?_;rintro e6 w6 ⟨rfl,hb6⟩;obtain⟨s0,s1,s2,s3,s4,sf0,sf1,sf2,sf3,sf4,hs⟩:=R5.out.below hb6;go_wp2_with fail;exact yQ (v:=.tuple #[zp,.int .i64 er]) (by simp[results,results163,go_sem,s0,s1,s2,s3,s4]) rfl ⟨nJ (bt B5 hb6) (by omega) _ _ _ _ _,.inl ⟨her,rfl⟩⟩
