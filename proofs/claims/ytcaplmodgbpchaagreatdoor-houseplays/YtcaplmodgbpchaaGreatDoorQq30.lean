import Derived.Test.YtcaplmodgbpchaaGreatDoorQq29
import Derived.Test.YtcaplmodgbpchaaGreatDoorQq01
import Derived.Test.YtcaplmodgbpchaaGreatDoorQq06
import Derived.Test.YtcaplmodgbpchaaGreatDoorQq07
import Derived.Laws.IdiomStrings
import Derived.Deep.Upon
open Go.Proofs.Tryz
open Go.Value(int)
open Go.IntKind(i64)
set_option linter.unusedSimpArgs false
set_option maxHeartbeats 16000000
set_option maxRecDepth 100000
namespace Go.Proofs.YtcaplmodgbpchaaGreatDoor
variable {l:List Int} {B b base base' c i j n size sz z:Nat} {x:Int} {w w':World} {e t:TypeId} {u v:Value} {xs:List Value} {a:Option Addr} {N N':Nat->Prop} {o:Oper} {K:Act->World->Prop} {Q:Exit->Act->World->Prop}
namespace K.P
open Go.RowKit K.Ds
def wby (l:List Int):List Nat:=(l.drop 5).flatMap fun x=>rZ 8 (vG x)
theorem a4X {α:Type}(f:α->List Nat)(a:∀ x,(f x).length=8):∀ (ls:List α) (q r:Nat),r<8->(ls.flatMap f)[8*q+r]? = (ls[q]?).bind fun x=>(f x)[r]?
 | [],q,r,_=>by simp
 | x::ls,0,r,hr=>by
  rw[eC,gO (by rw[a];omega)];simp
 | x::ls,q+1,r,hr=>by
  rw[eC,mH (by rw[a];omega),a,show 8*(q+1)+r - 8=8*q+r by omega,a4X f a ls q r hr];simp
theorem c6X (a:l[5+i / 8]? = some x):(wby l)[i]? = some ((rZ 8 (vG x)).getD (i % 8) 0):=by
 have h:=a4X (fun x=>rZ 8 (vG x)) (fun x=>oN _ _) (l.drop 5) (i / 8) (i % 8) (by omega);rw[show 8*(i / 8)+i % 8=i by omega,kK,a] at h;rw[wby,h];simp only[Option.bind_some];rw[List.getD,nZ (by rw[oN];omega)];rfl
theorem a4Z (h:l.length=9):(wby l).length=32:=by
 obtain⟨x0,x1,x2,x3,x4,x5,x6,x7,x8,rfl⟩:=dM h;simp[wby,oN]
theorem a4J (l:List Int):∀ b∈wby l,b<256:=by
 intro b a;obtain⟨x,_,g⟩:=gC.1 a;exact ayZ _ _ b g
theorem c6Z (l:List Int):dY (l.drop 5)=(wby l).filter (·≠0):=by
 unfold dY wby;rw[List.filter_flatMap]
theorem c6J:(prog.info? 5).map (fun i=>(i.zero,i.size,i.bytes))=some (some (.int .u8 0),1,1):=by kernel_rfl
def BB (w:World) (b:Nat) (l:List Nat):Prop:=∀ k x,l[k]? = some x->Cl w b k (.int .u8 ((x:Nat):Int))
theorem BB.set {l:List Nat}(h:BB w b l)(hi:i<l.length)(x:Nat):BB (w.setCell ⟨b,i,none⟩ (.int .u8 (x:Int))) b (l.set i x):=by
 intro k y a;by_cases c:i=k
 ·subst c
  rw[wD hi] at a;cases a;obtain⟨z,g⟩:∃ z,l[i]? = some z:=⟨_,nZ hi⟩;exact(h i z g).set _
 ·rw[sF c] at a
  exact(h k y a).oth (.inr c) _
theorem BB.drew {l:List Nat}(h:BB w b l):BB w.drew b l:=fun k x hx=>Cl.drew' (h k x hx)
theorem c7Q {bs:List Nat}(h:bs[i]? = some b)(g:bs.length=n):bs.take (i+1)++List.replicate (n - (i+1)) 0=(bs.take i++List.replicate (n - i) 0).set i b:=by
 have hi:i<bs.length:=(fQ.1 h).1;rw[xS _ _ (by rw[lU];omega),lU,Nat.min_eq_left (by omega),iI];obtain⟨k,a⟩:∃ k,n - i=k+1:=⟨n - i - 1,by omega⟩;rw[a,show n - (i+1)=k by omega,List.replicate_succ,List.set_cons_zero,rX,h];simp
theorem c7X (l:List Int)(B:Nat)(w:World)(E:l.length=9)(hB:∀ k x,l[k]? = some x->Cl w B k (int i64 x)) :
  Calls prog 130 #[.slice (some ⟨B,5,none⟩) 4 4] w (iQ w (.string (jY (wby l)))):=by
 have a:Hid ((wby l).length=32/\l.length=9):=⟨a4Z E,E⟩;have F:Hid (oX w B l):=⟨E,hB⟩;clear E hB;have L:∀ u:World,(Instr.makeSlice 144 (int i64 32) (int i64 32)).run prog u=.ok (.slice (some ⟨u.heap.size,0,none⟩) 32 32) (u.alloc (.cells (madeCells #[.int .u8 0] 32) 5)):=run_make_row' (P:=prog) 144 5 (.int .u8 0) 1 underlying144 c6J rfl .i64 .i64 32 (by decide) (by decide)
 have Y:Hid (BB (w.alloc (.cells (madeCells #[.int .u8 0] 32) 5)) w.heap.size ((wby l).take 0++List.replicate (32 - 0) 0)):=by
  intro k x o;have p:k<32:=by have:=(fQ.1 o).1;simpa using this
  obtain rfl:x=0:=by
   rw[List.take_zero,List.nil_append,anQ,jQ p] at o;cases o;rfl
  refine Cl.new _ 5 k _ rfl ?_;rw[<-Array.getElem?_toList,toList_madeCells_one,anQ,jQ p];rfl
 go_enter func130,ntmps130;go_wp2;clear L
 go_loopw [11] (fun t wr=>∃ (i:Nat),t=int i64 (i:Int)/\i<=32/\Hid (BB wr w.heap.size ((wby l).take i++List.replicate (32 - i) 0))/\Hid (xQ w wr)) (fun t _=>32 - (intOf t).toNat)
 case atStart=>exact⟨0,rfl,dQ _,Y,ba _ _⟩
 case round =>
  obtain⟨i,rfl,hi,G,I⟩:=hrel;by_cases N:i<32
  ·obtain⟨q,T⟩:∃ q,i / 8=q:=⟨_,rfl⟩
   obtain⟨k,p⟩:∃ k,k=8*(7 - i % 8):=⟨_,rfl⟩;have kf:=fun W=>a2Z i k N p W;have a7:q<4:=by omega
   have a8:(i:Int) / 8=(q:Int):=by omega
   have U:(q:Int)<4:=by omega
   have a9:IntKind.i64.wrap (q:Int)=(q:Int):=by rw[lJ];omega
   obtain⟨x,o⟩:∃ x,l[5+q]? = some x:=⟨_,nZ (by have:=a.out.2;omega)⟩;have m1:=((F.out.2 (5+q) x o).at I.out).c;have S:k<=56:=by omega
   obtain⟨b,m⟩:∃ b,(rZ 8 (vG x)).getD (i % 8) 0=b:=⟨_,rfl⟩;have R:IntKind.u8.wrap (x / 2 ^ k)=(b:Int):=by rw[p,c1J x (i % 8) (by omega),m]
   have y:(wby l)[i]? = some b:=by rw[c6X (x:=x) (by rw[T];exact o),m]
   obtain⟨z,M⟩:∃ z,((wby l).take i++List.replicate (32 - i) 0)[i]? = some z:=⟨_,nZ (by have:=a.out.1;simp;omega)⟩;have hc:=G.out i z M;have m2:=hc.c;have m3:=hc.f;have C:=c7Q y a.out.1
   have V:Hid (BB (wr.setCell ⟨w.heap.size,i,none⟩ (.int .u8 (b:Int))).drew w.heap.size ((wby l).take (i+1)++List.replicate (32 - (i+1)) 0)):=by
    rw[C];exact(G.out.set (fQ.1 M).1 _).drew
   have X:Hid (xQ w (wr.setCell ⟨w.heap.size,i,none⟩ (.int .u8 (b:Int))).drew):=(bs I.out (by simp) _).drew;clear o T p C hc M y m;go_wp2_with fail
   go_region_law (go_simp;go_at_call 137;refine(kf _).mono ?_;rintro e w' ⟨rfl,rfl⟩;go_wp2_with fail)
   all_goals
    go_wp2
    go_roundw
    ·exact⟨i+1,by go_num,N,V,X⟩
    ·simp[intOf];omega
  ·obtain rfl:i=32:=by omega
   have H:Hid (BB wr w.heap.size (wby l)):=by
    have h:=G.out;rw[gJ (by rw[a.out.1];exact vQ _)] at h;rw[Hid];simpa using h
   have Z:(convert 144 9 (.slice (some ⟨w.heap.size,0,none⟩) 32 32)).run prog wr=.ok (.string (jY (wby l))) wr:=by
    obtain⟨g,v⟩:∃ g,wby l=g:=⟨_,rfl⟩;have J:∀ b∈g,b<256:=fun b R=>a4J l b (by rw[v];exact R);have Q:=H.out;have O:=a.out.1;rw[v] at Q O ⊢;have hn:32=(g.map UInt8.ofNat).length:=by rw[pA,O]
    show(convert 144 9 (.slice (some ⟨w.heap.size,0,none⟩) 32 32)).run prog wr=.ok (.string ⟨(g.map UInt8.ofNat).toArray⟩) wr
    have D:=run_convert_bytes_back wr 144 9 5 ⟨w.heap.size,0,none⟩ 32 (g.map UInt8.ofNat) underlying144 underlying5 underlying9 fun j hj=>by
     have A:j<g.length:=by simpa using hj
     have e:(UInt8.ofNat g[j]).toNat=g[j]:=UInt8.toNat_ofNat_of_lt' (J _ (List.getElem_mem A));rw[List.getElem_map,e,bJ,vX];exact(Q j _ (nZ A)).c
    rw[<-hn] at D;exact D
   go_wp2;go_ret;exact⟨rfl,I.out⟩
def bl (l:List Nat):List Value:=l.map fun(b:Nat)=>Value.int .u8 (b:Int)
theorem tH (h:w.ownsRow base t z v n xs):∃ wa c,v=.slice wa n c/\n<=c/\(wa=none->n=0/\c=0)/\∀ ad,wa=some ad->∃ g,ad=⟨g,0,none⟩/\base<=g/\g<w.heap.size/\∀ j u,xs[j]? = some u->w.cell? ⟨g,j,none⟩=some u:=by
 have k:=h;rcases h.2 with⟨a,i⟩|⟨g,cap,cur,a,m,hc,o,p,y,A⟩
 ·subst a;refine⟨none,0,by rw[i],by omega,fun _=>⟨i,rfl⟩,fun ad e=>by cases e⟩
 ·subst a
  refine⟨_,cap,rfl,o,fun e=>(by cases e),fun ad e=>?_⟩;cases e;refine⟨g,rfl,m,(mY.1 hc).1,fun j u hj=>?_⟩;have l:=k.cells (g:=g) rfl j _ hj;rwa [bJ,vX] at l
theorem a5Q:∀ (j n:Nat),rZ (j+1) n=(n / 256 ^ j % 256)::rZ j n
 | 0,n=>by simp[rZ]
 | j+1,n=>by
  have h:=a5Q j (n / 256)
  show rZ (j+1) (n / 256)++[n % 256]=_::(rZ j (n / 256)++[n % 256])
  rw[h,Nat.div_div_eq_div_mul,<-Nat.pow_succ'];rfl
theorem c7Z (l:List Nat)(c:Nat):jY l++⟨#[UInt8.ofNat c]⟩=jY (l++[c]):=by
 apply ByteArray.ext;simp[jY]
theorem fP (l:List Nat):(jY l).size=l.length:=by simp[jY,ByteArray.size]
theorem c7J (N:Nat)(w:World)(c:Nat)(hc:c<256)(h:w.cell? ⟨N,0,none⟩=some (.int .u8 (c:Int))):(convert 144 9 (.slice (some ⟨N,0,none⟩) 1 1)).run prog w=.ok (.string ⟨#[UInt8.ofNat c]⟩) w:=by
 have a:=run_convert_bytes_back w 144 9 5 ⟨N,0,none⟩ 1 [UInt8.ofNat c] underlying144 underlying5 underlying9 fun j hj=>by
  obtain rfl:j=0:=by simpa using hj
  rw[bJ,vX];simpa [UInt8.toNat_ofNat_of_lt' hc] using h
 exact a
theorem c8Q (l:List Int):(dY l).length<=8*l.length:=by
 induction l with
 | nil=>simp[dY]
 | cons x l ih =>
  have h:(dY (x::l))=(rZ 8 (vG x)).filter (·≠0)++dY l:=by simp[dY]
  rw[h,sY,cD];have:=List.length_filter_le (fun b=>decide (b≠0)) (rZ 8 (vG x));rw[oN] at this;omega
theorem c8X:(prog.info? 5).map (fun i=>(i.zero,i.size,i.bytes))=some (some (.int .u8 0),1,1):=by kernel_rfl
theorem c8Z (B:Nat)(lv:Value)(l:List Int)(w:World)(hB:B<=w.heap.size)(hx:yQ w B B lv l)(hl:l.length=4) :
  Calls prog 30 #[lv] w fun e w'=>e=.returned (.string (jY (dY l)))/\xQ w w':=by
 obtain⟨i5,hi5,hz0,hz1,hz2⟩:=pZ c8X;have HX:=qQ hx;have HL:=qQ hl;obtain⟨a,c,rfl,hc,hl1⟩:=hx.slice;clear hx hl;go_enter func30,ntmps30;go_wp2
 go_loopw [13,3] (fun t v wr=>∃ (k:Nat),t=int i64 (k:Int)/\k<=l.length/\v=.string (jY (dY (l.take k)))/\Hid (xQ w wr)) (fun t _ _=>l.length - (intOf t).toNat)
 case atStart=>exact⟨0,rfl,dQ _,rfl,uQ _ _⟩
 case round =>
  obtain⟨k,rfl,hk,rfl,HW⟩:=hrel;by_cases h1:k<l.length
  ·obtain⟨b,o,x,rfl,hb,_,hg,e0⟩:=HX.out.get hB HW.out h1
   obtain⟨n,hn⟩:∃ n,vG x=n:=⟨_,rfl⟩;have hcv:IntKind.u64.wrap x=(n:Int):=by rw[<-hn,IntKind.wrap_u64];unfold vG;omega
   have HNX:Hid (dY (l.take (k+1))=dY (l.take k)++(rZ 8 n).filter (·≠0)):=by
    rw[Hid,rX,hg,<-hn];simp[dY]
   have hn64:n<18446744073709551616:=by rw[<-hn];unfold vG;omega
   clear hg hn;go_wp2
   go_loopw [8,6,7] (fun t uv bv wq=>∃ (j m:Nat),t=int i64 (j:Int)/\uv=.int .u64 (m:Int)/\j<=8/\Hid (n / 256 ^ j=m)/\Hid (wq.ownsRow w.heap.size 5 1 bv j (bl (rZ j n)))/\Hid (xQ w wq)) (fun t _ _ _=>8 - (intOf t).toNat)
   case atStart=>exact⟨0,n,rfl,rfl,by omega,Nat.div_one n,⟨rfl,.inl ⟨rfl,rfl⟩⟩,HW⟩
   case round =>
    obtain⟨j,m,rfl,rfl,hj,HM,HR,HQ⟩:=hrel;by_cases h2:j<8
    ·have hm:=HM.out
     have hm64:m<18446744073709551616:=by rw[<-hm];exact Nat.lt_of_le_of_lt (Nat.div_le_self _ _) hn64
     obtain⟨d,hd⟩:∃ d,m % 256=d:=⟨_,rfl⟩;have r1:(m:Int) % 256=(d:Int):=by omega
     obtain⟨m2,hm2⟩:∃ m2,m / 256=m2:=⟨_,rfl⟩;have r2:(m:Int) / 256=(m2:Int):=by omega
     have HM2:Hid (n / 256 ^ (j+1)=m2):=by rw[Hid,rO,<-Nat.div_div_eq_div_mul,hm,hm2]
     have r3:IntKind.u8.wrap (d:Int)=(d:Int):=by rw[IntKind.wrap_u8];omega
     have HD:Hid (bl (rZ (j+1) n)=[.int .u8 (d:Int)]++bl (rZ j n)):=by rw[Hid,a5Q,hm,hd];rfl
     clear hd hm2;obtain⟨wa,bc,rfl,hbc,hb0,hb1⟩:=tH HR.out;have HMD:Hid ((wr.alloc (.cells #[.int .u8 (d:Int)] 5)).ownsRow w.heap.size 5 1 (.slice (some ⟨wr.heap.size,0,none⟩) 1 1) 1 [.int .u8 (d:Int)]):=World.ownsRow_lit wr #[.int .u8 (d:Int)] 1 HQ.out.size (by decide) rfl;have HB0:=qQ hb0;have HB1:=qQ hb1;clear hb0 hb1 hm;go_wp2_with (at_builtin;refine uS rfl _ _ 144 rfl w.heap.size 5 i5 (.int .u8 0) 1 1 underlying144 hi5 hz0 hz1 hz2 rfl (by decide) _ _ _ rfl HMD.out wa j bc (bl (rZ j n)) rfl HB0.out ?q1 ?q2 ?q3 ?q4 ?q5 ?q6 ?q7 ?_)
     case q1=>rw[Nat.mul_one];exact HR.out.1.trans (Nat.mul_one _)
     case q2 =>
      intro ad ha j' u hj';obtain⟨g,rfl,_,hg2,hg3⟩:=HB1.out ad ha;rw[bJ,vX,pH _ _ _ (by exact hg2)];exact hg3 j' u hj'
     case q3=>intro u hu;obtain⟨z,_,rfl⟩:=iJ.1 hu;rfl
     case q4=>simp[maxLen];omega
     case q5=>omega
     case q6=>have:=HQ.out.size;simp;omega
     case q7=>intro e;cases e
     intro v' w' hown hgrow _;have F1:Hid (w'.ownsRow w.heap.size 5 1 v' (j+1) (bl (rZ (j+1) n))):=by rw[Hid,HD.out,Nat.add_comm];exact hown
     have F2:Hid (xQ w w'):=by
      have h3:=HQ.out;refine⟨hgrow.os.trans h3.os,hgrow.tape.trans h3.tape,hgrow.output.trans h3.output,bQ h3.size (bQ (by simp) hgrow.size),fun b' hb'=>?_⟩;have:=h3.size;rw[hgrow.block b' (by simp;omega) (fun e=>by simp[Value.ownBlock] at e;omega),tM _ _ _ (by omega)];exact h3.block b' hb'
     clear hown hgrow HR HQ HMD HB0 HB1 HD;go_wp2
     go_roundw
     case rel=>exact⟨j+1,m2,by go_num,rfl,h2,HM2,F1,F2⟩
     case measure=>simp[intOf];omega
    ·obtain rfl:j=8:=by omega
     obtain⟨wq,rfl⟩:∃ wq,wq=wr:=⟨_,rfl⟩;obtain⟨wa,bc,rfl,hbc,hb0,hb1⟩:=tH HR.out
     obtain⟨g,rfl⟩:∃ g,wa=some ⟨g,0,none⟩:=by
      cases wa with
      | none=>exact absurd (hb0 rfl).1 (by decide)
      | some ad=>obtain⟨g,e,_⟩:=hb1 ad rfl;exact⟨g,by rw[e]⟩
     have HC:Hid (g<wq.heap.size/\∀ j' (c':Nat),(rZ 8 n)[j']? = some c'->wq.cell? ⟨g,j',none⟩=some (.int .u8 (c':Int))):=by
      obtain⟨g',e,_,h4,h5⟩:=hb1 _ rfl;cases e;exact⟨h4,fun j' c' hc'=>h5 j' _ (by rw[bl,mV,hc'];rfl)⟩
     have hd8:(rZ 8 n).length=8:=oN 8 n;clear hb0 hb1 HR;go_wp2
     go_loopw [33,3] (fun t v wz=>∃ (i:Nat),t=int i64 (i:Int)/\i<=8/\v=.string (jY (dY (l.take k)++((rZ 8 n).take i).filter (·≠0)))/\Hid (xQ wq wz)) (fun t _ _=>8 - (intOf t).toNat)
     case atStart=>exact⟨0,rfl,by omega,by simp,uQ _ _⟩
     case round =>
      obtain⟨i,rfl,hi,rfl,HZ⟩:=hrel;by_cases h3:i<8
      ·obtain⟨c',hc'⟩:∃ c',(rZ 8 n)[i]? = some c':=⟨_,nZ (by omega)⟩
       have hc2:c' < 256:=ayZ 8 n c' (qX hc');have m0:=(HZ.out.cell (p:=⟨g,i,none⟩) HC.out.1).trans (HC.out.2 i c' hc')
       have hnx:((rZ 8 n).take (i+1)).filter (·≠0)=((rZ 8 n).take i).filter (·≠0)++[c'].filter (·≠0):=by
        rw[rX,hc',zN];rfl
       by_cases h4:c' = 0
       ·have hz:((c':Int) != 0)=false:=by simp[h4]
        have HN2:Hid (((rZ 8 n).take (i+1)).filter (·≠0)=((rZ 8 n).take i).filter (·≠0)):=by rw[Hid,hnx,h4];simp
        clear hnx hc' h4;go_wp2
        go_roundw
        case rel=>exact⟨i+1,by go_num,h3,by rw[HN2.out],HZ⟩
        case measure=>simp[intOf];omega
       ·have hz:((c':Int) != 0)=true:=by simp;omega
        have HN2:Hid (((rZ 8 n).take (i+1)).filter (·≠0)=((rZ 8 n).take i).filter (·≠0)++[c']):=by rw[Hid,hnx];simp[h4]
        obtain⟨acc,hacc⟩:∃ acc,dY (l.take k)++((rZ 8 n).take i).filter (·≠0)=acc:=⟨_,rfl⟩;have HA:=qQ hacc
        have hal:acc.length<=100:=by
         rw[<-hacc,sY];have h5:=c8Q (l.take k);have h6:=List.length_filter_le (fun b=>decide (b≠0)) ((rZ 8 n).take i);rw[lU] at h5 h6;have:=HL.out;omega
        rw[hacc];have hcv:=fun W h=>c7J wr.heap.size W c' hc2 h;have hcx:=hcv (wr.alloc (.cells #[.int .u8 (c':Int)] 5)) (Cl.new _ 5 0 _ rfl rfl).c;have hsn:=c7Z acc c';have hsz:=fP acc;have hss:¬ 9223372036854775807<(jY acc).size+(⟨#[UInt8.ofNat c']⟩:ByteArray).size:=by rw[hsz];show ¬ _<_+1;omega
        clear hnx hc' h4 hacc hcv hsz;go_wp2
        go_roundw
        case rel=>exact⟨i+1,by go_num,h3,by rw[HN2.out,<-qS,HA.out],bal HZ.out _⟩
        case measure=>simp[intOf];omega
      ·obtain rfl:i=8:=by omega
       have e8:(rZ 8 n).take 8=rZ 8 n:=gJ (by omega);rw[e8,<-HNX.out];have F:=qQ (bt HQ.out HZ.out);clear HQ HZ HC e8;go_wp2
       go_roundw
       case rel=>exact⟨k+1,by go_num,h1,rfl,F⟩
       case measure=>simp[intOf];omega
  ·obtain rfl:k=l.length:=by omega
   rw[bU];go_wp2;go_ret;exact⟨rfl,HW.out⟩
end K.P
namespace K.P
open Go.RowKit Go.Shelf K.Ds
attribute [local go_sem] Oper.semAt_some
theorem Keeps.imp {a b:World}(h:Keeps a b N)(g:∀ k,k<a.heap.size->N k->N' k):Keeps a b N':=⟨h.os,h.tape,h.output,h.size,fun k hk hn=>h.block k hk (fun c=>hn (g k hk c))⟩
theorem vZ (a:World)(N:Nat->Prop):Keeps a a N:=⟨rfl,rfl,rfl,vQ _,fun _ _ _=>rfl⟩
theorem qA (h:w.ownsRow base t sz v n xs)(a:Keeps w w' N)(i:∀ g,v.ownBlock=some g->¬ N g):w'.ownsRow base t sz v n xs :=
 xO h fun g hg=>a.block g (tX h hg).2 (i g hg)
theorem jD (h:w.ownsRow base t sz v n xs)(k:base'<=base):w.ownsRow base' t sz v n xs:=by
 refine⟨h.1,?_⟩;rcases h.2 with a|⟨g,cap,cur,j,i,hc⟩
 ·exact .inl a
 ·exact .inr ⟨g,cap,cur,j,by omega,hc⟩
end K.P
namespace K.P
open Go.RowKit K.Ds
theorem iW {l:List En}{x:En}(h:l[i]? = some x):(enc l)[i*5]? = some (int i64 x.1)/\(enc l)[i*5+1]? = some (.string x.2.1)/\(enc l)[i*5+2]? = some (int i64 x.2.2.1)/\(enc l)[i*5+3]? = some (int i64 x.2.2.2.1)/\(enc l)[i*5+4]? = some (int i64 x.2.2.2.2):=by
 induction l generalizing i with
 | nil=>simp at h
 | cons y l ih =>
  cases i with
  | zero=>simp at h;subst h;simp[enc,yG]
  | succ i =>
   simp only[List.getElem?_cons_succ] at h;have:=ih h
   have e:∀ k,(enc (y::l))[(i+1)*5+k]? = (enc l)[i*5+k]?:=fun k=>by
    have:enc (y::l)=yG y++enc l:=by simp[enc]
    rw[this,mH (by simp[yG];omega)];simp only[yG,cD,List.length_nil];congr 1;omega
   exact⟨by rw[<-this.1];exact e 0,by rw[<-this.2.1];exact e 1,by rw[<-this.2.2.1];exact e 2,by rw[<-this.2.2.2.1];exact e 3,by rw[<-this.2.2.2.2];exact e 4⟩
theorem tI (h:w.ownsRow base t sz (.slice a n c) n xs)(i:xs[j]? = some u) :
  ∃ g,a=some ⟨g,0,none⟩/\base<=g/\g<w.heap.size/\w.cell? ⟨g,j,none⟩=some u:=by
 rcases h.2 with⟨k,o⟩|⟨g,cap,cur,k,p,m,y,z,A,v⟩
 ·have:=h.1
  rw[o] at this;obtain rfl:xs=[]:=anZ (by omega);simp at i
 ·simp only[yZ] at k
  refine⟨g,k.1,p,(mY.1 m).1,?_⟩;have l:j<xs.length:=(fQ.1 i).1;rw[<-v,oG (by rw[<-h.1];exact l)] at i;simp[World.cell?,m];simpa using i
theorem lP {dn:List En}(h:Inv dn):∀ x∈dn,x.2.1.size<=32:=fun x hx=>by
 have a:=(fD (h.bad x hx).1).2.2.1;unfold mJ at a;simp only[eI,dJ] at a;have g:=a.1.2;rw[rL] at g;exact g
theorem wI {dn:List En}(h:w.ownsRow base 72 5 v dn.length (enc dn))(p:dn.length<=9223372036854775807)(y:∀ x∈dn,x.2.1.size<=9223372036854775807):uJ w w.heap.size v dn:=by
 obtain⟨a,c,rfl⟩:=iY h;refine⟨a,c,rfl,?_,p,y,fun hne=>?_⟩
 ·rcases h.2 with⟨o,B⟩|⟨g,cap,cur,o,C,D,E,_⟩
  ·omega
  ·simp only[yZ] at o;omega
 ·obtain⟨x0,z,rfl⟩:∃ x l,dn=x::l:=by cases dn;exact absurd rfl hne;exact⟨_,_,rfl⟩
  obtain⟨g,rfl,_,m,_⟩:=tI h (iW (i:=0) (x:=x0) rfl).1;refine⟨g,0,rfl,m,fun i x hi=>?_⟩;have k:=iW hi
  have cell:∀ {j u},(enc (x0::z))[j]? = some u->w.cell? ⟨g,j,none⟩=some u:=fun hj=>by
   obtain⟨A,e,_,_,hc⟩:=tI h hj;simp only[aZ,dD] at e;rw[e.1];exact hc
  simp only[vX];exact⟨cell k.1,cell k.2.1,cell k.2.2.1,cell k.2.2.2.1,cell k.2.2.2.2⟩
theorem daQ (w:World)(t o e:TypeId)(i:TypeInfo)(size:Nat)(m:prog.underlying t=some (.slice e))(hi:prog.info? e=some i)(l:i.size=size)(base a:Option Addr)(h g c:Nat)(k:h<=g) :
  (Builtin.append_ #[t,t] o #[.slice base h g,.slice a 0 c]).run prog w=.ok (.slice base h g) w:=by
 refine run_append_nothing (P:=prog) w t t o e i m hi base h g k (.slice a 0 c) ?_;rw[l]
 have j:∀ W:World,(Builtin.firstCells size 0 (.slice a 0 c)).run prog W=.ok ([]:List Value).toArray W:=by
  intro W;cases a with
  | none=>exact run_firstCells_none W size 0 0 c
  | some ad=>exact run_firstCells_some W size 0 ad 0 c [] (by simp) (by simp)
 exact⟨.inl ⟨e,m⟩,fun w'=>by simp[Builtin.lenOf],j w,j w.drew,by simp,by simp⟩
theorem a7J (h:w.ownsRow base e size (.slice a n c) n xs):n<=c:=by
 rcases h.2 with⟨i,j⟩|⟨g,cap,cur,i,_,_,j,_⟩
 ·simp only[yZ] at i;omega
 ·simp only[yZ] at i;omega
theorem jO {a:Act}(w:World)(s x:Operand)(t:TypeId)(ho:o.op=.call { callee:=.builtin .append,args:=#[s,x],argTypes:=#[t,t] })
  (base:Nat) (e:TypeId) (i:TypeInfo) (z:Value) (size k:Nat) (X:prog.underlying t=some (.slice e)) (hi:prog.info? e=some i) (hz:i.zero=some z) (y:i.size=size) (O:i.bytes=k) (T:z.cells.size=size) (S:0<size)
  (A:Option Addr) (n B:Nat) (xs:List Value) (hs:a.eval s=.slice A n B) (v:w.ownsRow base e size (.slice A n B) n xs)
  (I:Option Addr) (m J:Nat) (g:List Value) (hx:a.eval x=.slice I m J) (hl:g.length=m*size) (G:m≠0->∃ ad,I=some ad/\∀ j u,g[j]? = some u->w.cell? (ad.add j)=some u) (L:∀ u∈g,u.oneCell' = true)
  (N:n+m<=maxLen) (C:(n+m)*k<=140737488355328) (D:base<=w.heap.size) (F:Nat) (R:n+m=F)
  (h:∀ l p w',w'.ownsRow base e size (.slice l F p) F (xs++g)->w.grownBy w' (Value.slice A n B).ownBlock->((Value.slice l F p).ownBlock=(Value.slice A n B).ownBlock\/(Value.slice l F p).ownBlock=some w.heap.size)->K (a.put o.dst (.slice l F p)) w') :
  Oper.wp prog o a w K Q:=by
 subst R
 have U:∃ l p w',(Builtin.append_ #[t,t] o.type #[.slice A n B,.slice I m J]).run prog w=.ok (.slice l (n+m) p) w'/\w'.ownsRow base e size (.slice l (n+m) p) (n+m) (xs++g)/\w.grownBy w' (Value.slice A n B).ownBlock/\((Value.slice l (n+m) p).ownBlock=(Value.slice A n B).ownBlock\/(Value.slice l (n+m) p).ownBlock=some w.heap.size):=by
  by_cases V:m=0
  ·subst V
   obtain rfl:g=[]:=anZ (by omega);exact⟨A,B,w,daQ w t _ e i size X hi y A I n B J (a7J v),by simpa using v,qP _ _,.inl rfl⟩
  ·obtain⟨ad,rfl,E⟩:=G V
   obtain⟨v',w',L,H,M,_,Z⟩:=run_append_own_at (P:=prog) w base t o.type e i z size k X hi hz y O T S (.slice A n B) n xs v ad m J g hl E L N C D;obtain⟨l,p,rfl⟩:=iY H;exact⟨l,p,w',L,H,M,Z⟩
 obtain⟨l,p,w',hr,H,M,Y⟩:=U;unfold Oper.wp execOp;simp only[ho,resolve,invoke,builtin,Sem.run_bind,jN,oH,List.map_toArray,aI,iC,hs,hx,hr];exact h l p w' H M Y
theorem lW (w:World)(t:TypeId)(sz base:Nat)(a:base<=w.heap.size):(w.alloc (.cells #[] t)).ownsRow base t sz (.slice (some ⟨w.heap.size,0,none⟩) 0 0) 0 [] :=
 ⟨by simp,.inr ⟨w.heap.size,0,#[],rfl,a,lL w _,vQ _,by decide,by simp,by simp⟩⟩
theorem mW {l:List En}(h:uJ w B (.slice a n c) l):n≠0->∃ ad,a=some ad/\∀ j u,(enc l)[j]? = some u->w.cell? (ad.add j)=some u:=by
 intro y;obtain⟨G,H,v,_,_,_,z⟩:=h;simp only[yZ] at v;obtain⟨rfl,rfl,rfl⟩:=v;obtain⟨b,o,rfl,_,g⟩:=z (fun e=>by subst e;exact y rfl);refine⟨_,rfl,fun j u hj=>?_⟩;rw[bJ];have p:j<(enc l).length:=(fQ.1 hj).1;rw[bM] at p;have hi:j / 5<l.length:=by omega
 obtain⟨x,k⟩:=fX hi;have i:=iW k;obtain⟨A,C,D,E,F⟩:=g _ x k;have m:j=j / 5*5+j % 5:=by omega
 have I:j % 5<5:=Nat.mod_lt _ (by decide);generalize j / 5=q at *
 generalize j % 5=r at *
 subst m;rcases (by omega:r=0\/r=1\/r=2\/r=3\/r=4) with rfl|rfl|rfl|rfl|rfl
 ·have:=i.1;rw[fI] at hj;rw[this] at hj;cases hj;simpa using A
 ·rw[i.2.1] at hj;cases hj;rw[<-cU];exact C
 ·rw[i.2.2.1] at hj;cases hj;rw[<-cU];exact D
 ·rw[i.2.2.2.1] at hj;cases hj;rw[<-cU];exact E
 ·rw[i.2.2.2.2] at hj;cases hj;rw[<-cU];exact F
attribute [local go_sem] bL
theorem a8Q (e:En)(w:World) :
  Calls prog 32 #[ev e] w fun x w'=>∃ v,x=.returned v/\w'.ownsRow w.heap.size 2 1 v 9 (wl (oJ e))/\xQ w w':=by
 obtain⟨d,nm,p,u,v⟩:=e;obtain⟨i2,J,M,N,O⟩:=pZ uL;have kw:=fun W=>c6Q nm W;go_enter func32,ntmps32;go_upto_region 1 with fail;obtain⟨A,F⟩:∃ A,w.alloc (.cells #[int i64 d,.string nm,int i64 p,int i64 u,int i64 v] 72)=A:=⟨_,rfl⟩
 have X:∀ W,xQ A W->W.cell? ⟨w.heap.size,0,none⟩=some (int i64 d)/\W.cell? ⟨w.heap.size,1,none⟩=some (.string nm)/\W.cell? ⟨w.heap.size,2,none⟩=some (int i64 p)/\W.cell? ⟨w.heap.size,3,none⟩=some (int i64 u)/\W.cell? ⟨w.heap.size,4,none⟩=some (int i64 v):=by
  intro W D;rw[<-F] at D;exact⟨((Cl.new _ 72 0 _ rfl rfl).at D).c,((Cl.new _ 72 1 _ rfl rfl).at D).c,((Cl.new _ 72 2 _ rfl rfl).at D).c,((Cl.new _ 72 3 _ rfl rfl).at D).c,((Cl.new _ 72 4 _ rfl rfl).at D).c⟩
 have H:xQ w A:=F▸ba _ _;have V:A.heap.size=w.heap.size+1:=by rw[<-F];simp
 rw[F];clear F
 refine zO [3,4,5,6,7,8,9,10,11,12,13,14,15,16,17,2] (fun L o W=>vV [(0,3,.pointer (some ⟨w.heap.size,0,none⟩)),(1,4,int i64 d),(2,5,.pointer (some ⟨w.heap.size,2,none⟩)),(3,6,int i64 p),(4,7,.pointer (some ⟨w.heap.size,3,none⟩)),(5,8,.pointer (some ⟨w.heap.size,3,none⟩)),(6,9,int i64 u),(7,10,.pointer (some ⟨w.heap.size,3,none⟩)),(8,11,.pointer (some ⟨w.heap.size,4,none⟩)),(9,12,int i64 v),(11,14,.pointer (some ⟨w.heap.size,1,none⟩)),(12,15,.string nm)] L o /\
  (xQ A W/\(L 10=true->L 14=false->W.ownsRow A.heap.size 2 1 (o 13) 5 (wl [1,d,p,u,v])/\o 13≠.slice none 0 0)/\(L 13=true->L 14=false->W.ownsRow A.heap.size 2 1 (o 16) 4 (wl (zJ (nU nm))))/\(L 10=true->L 13=true->L 14=false->∀ g,(o 13).ownBlock=some g->(o 16).ownBlock≠some g) /\
   (L 14=true->W.ownsRow A.heap.size 2 1 (o 17) 9 (wl (oJ (d,nm,p,u,v))))/\(L 15=true->L 14=true/\o 2=o 17))) [0,1,2,3,4,5,6,7,8,9,10,11,12,13,14,15] (by kernel_rfl) ⟨?_,?_,?_,?_,?_,?_,?_,?_,?_,?_,?_,?_,?_,?_,?_,?_,trivial⟩ (by kernel_rfl) ?_ ?_
 all_goals first
  | (refine a7Q rfl rfl (by decide) rfl rfl (fun _ _ _ h=>h) (fun L o W hd m hX=>?_);obtain⟨c0,c1,c2,c3,c4⟩:=X W hX.1;first | (go_simp;done) | (have q:=m.get 0 rfl (hd 0 (by decide));go_simp;done) | (have q:=m.get 2 rfl (hd 2 (by decide));go_simp;done) | (have q:=m.get 4 rfl (hd 4 (by decide));go_simp;done) | (have q:=m.get 5 rfl (hd 5 (by decide));go_simp;done) | (have q:=m.get 7 rfl (hd 7 (by decide));go_simp;done) | (have q:=m.get 8 rfl (hd 8 (by decide));go_simp;done) | (have q:=m.get 10 rfl (hd 11 (by decide));go_simp;done))
  | skip
 ·refine bV rfl rfl rfl (fun L o W h0 hd m hX K hK=>?_)
  obtain⟨l,y,B,C,i,k⟩:=hX;have q1:=m.get 1 rfl (hd 1 (by decide));have q2:=m.get 3 rfl (hd 3 (by decide));have q3:=m.get 6 rfl (hd 6 (by decide));have q4:=m.get 9 rfl (hd 9 (by decide));refine gG (v:=.slice (some ⟨W.heap.size,0,none⟩) 5 5) (w':=W.alloc (.cells #[int i64 1,int i64 d,int i64 p,int i64 u,int i64 v] 2)) (by go_simp) (hK _ _ ?_);refine⟨bal l _,fun _ _=>⟨World.ownsRow_lit W #[int i64 1,int i64 d,int i64 p,int i64 u,int i64 v] 5 l.size (by decide) rfl,fun e=>by cases e⟩,fun a b=>(B a b).alloc _,fun _ a b g e e'=>?_,fun a=>(i a).alloc _,k⟩;have:=(tX (B a b) e').2;cases e;exact Nat.lt_irrefl _ this
 ·refine bV rfl rfl rfl (fun L o W h0 hd m hX K hK=>?_)
  obtain⟨l,y,B,C,i,k⟩:=hX;have q1:=m.get 11 rfl (hd 12 (by decide));refine nT (by go_simp) (kw W) (fun e w' ⟨v',e1,hr,hb⟩=>⟨v',e1,hK v' w' ?_⟩);refine⟨bt l hb,fun a b=>⟨sZ (y a b).1 (cZ hb) (by simp),(y a b).2⟩,fun _ _=>jD hr l.size,fun a _ b g e e'=>?_,fun a=>sZ (i a) (cZ hb) (by simp),k⟩;have:=(tX (y a b).1 e).2;have:=(tX hr e').1;omega
 ·refine bV rfl rfl rfl (fun L o W h0 hd m hX K hK=>?_)
  obtain⟨l,y,B,C,i,k⟩:=hX;obtain⟨r1,Z⟩:=y (hd 10 (by decide)) h0;have r2:=B (hd 13 (by decide)) h0;obtain⟨sa,sc,E⟩:=iY r1;obtain⟨Q,uc,G,_,Y,I⟩:=tH r2;rw[E] at r1;refine jO W (.tmp 13) (.tmp 16) 26 rfl A.heap.size 2 i2 (int i64 0) 1 8 underlying26 J M N O rfl (by decide) sa 5 sc (wl [1,d,p,u,v]) ((vY (by decide) (by simp)).trans E) r1 Q 4 uc (wl (zJ (nU nm))) ((vY (by decide) (by simp)).trans G) (by simp[wl,uF]) (fun _=>?_) (fun x hx=>by obtain⟨z,_,rfl⟩:=iJ.1 hx;rfl) (by decide) (by decide) l.size 9 rfl (fun a' c' w' hr hg _=>hK _ _ ?_)
  ·cases Q with
   | none=>exact absurd (Y rfl).1 (by decide)
   | some ad =>
    obtain⟨g,rfl,_,_,U⟩:=I ad rfl;exact⟨_,rfl,fun j x hj=>by rw[bJ,vX];exact U j x hj⟩
  ·refine⟨?_,fun _ h=>Bool.noConfusion h,fun _ h=>Bool.noConfusion h,fun _ _ h=>Bool.noConfusion h,fun _=>?_,fun e=>?_⟩
   ·exact⟨hg.os.trans l.os,hg.tape.trans l.tape,hg.output.trans l.output,bQ l.size hg.size,fun b hb=>(hg.block b (lQ hb l.size) (fun e=>by have:=(tX r1 e.symm).1;omega)).trans (l.block b hb)⟩
   ·have T:wl (oJ (d,nm,p,u,v))=wl [1,d,p,u,v]++wl (zJ (nU nm)):=by simp[wl,oJ]
    rw[T];exact hr
   ·have:=(k e).1
    rw[h0] at this;cases this
 ·refine bV rfl rfl rfl (fun L o W h0 hd m hX K hK=>?_)
  obtain⟨l,y,B,C,i,k⟩:=hX;refine gG (v:=o 17) (w':=W) (by go_simp) (hK _ _ ⟨l,y,B,C,i,fun _=>⟨hd 14 (by decide),rfl⟩⟩)
 ·intro L o W P ⟨m,l,_,_,_,i,k⟩
  have r:=i (P 14 (by decide));have e:=(k (P 15 (by decide))).2;simp only[ov,List.foldl_cons,List.foldl_nil,List.setIfInBounds_toArray,List.set_cons_zero,List.set_cons_succ];have R:Hid (W.ownsRow w.heap.size 2 1 (o 2) 9 (wl (oJ (d,nm,p,u,v)))):=by rw[Hid,e];exact jD r (by omega)
  have S:=qQ (bt H l);clear r e m l i k;go_wp2;go_ret;exact⟨_,rfl,R.out,S.out⟩
 ·intro o
  refine⟨fun t _ h=>Bool.noConfusion h,(uQ _ _).drew,fun h=>Bool.noConfusion h,fun h=>Bool.noConfusion h,fun h=>Bool.noConfusion h,fun h=>Bool.noConfusion h,fun h=>Bool.noConfusion h⟩
end K.P
namespace K.P
open Go.RowKit Go.Shelf K.Ds
theorem a8X:∀ (l:List UInt8),0<l.count 0->∃ j:Nat,Lib.indexByte l 0=(j:Int)/\j<l.length/\(l.take (j+1)).filter (·≠0)=l.take j/\(l.drop (j+1)).count 0+1=l.count 0
 | [],h=>by simp at h
 | b::l,h=>by
  by_cases a:b=0
  ·subst a
   exact⟨0,by simp[Lib.indexByte],by simp,by simp,by simp⟩
  ·have hc:(b::l).count 0=l.count 0:=by simp[a]
   obtain⟨j,g,o,i,k⟩:=a8X l (by omega);have m:¬ (j:Int) = -1:=by omega
   refine⟨j+1,?_,by simp;omega,?_,?_⟩
   ·simp[Lib.indexByte,a,g,m]
   ·rw[List.take_succ_cons,List.filter_cons_of_pos (by simpa using a),i,List.take_succ_cons]
   ·rw[List.drop_succ_cons,k,hc]
theorem a8Z {l:List UInt8}(h:l.count 0=0):l.filter (·≠0)=l:=by
 rw[List.filter_eq_self];intro a ha;have:=List.count_eq_zero.1 h;simp only[ne_eq,decide_not,Bool.not_eq_eq_eq_not,Bool.not_true,decide_eq_false_iff_not];rintro rfl;exact this ha
theorem daX (s:ByteArray)(hs:s.size<=32)(w:World) :
  Calls prog 174 #[.string s,.string ⟨#[0]⟩,.string ⟨#[]⟩,int i64 (-1)] w (iQ w (.string ⟨(s.data.toList.filter (·≠0)).toArray⟩)):=by
 obtain⟨zs,l⟩:∃ zs,s.data.toList=zs:=⟨_,rfl⟩;have G:zs.length=s.size:=by rw[<-l];simp
 obtain⟨K,Q⟩:∃ K,zs.count 0=K:=⟨_,rfl⟩;have aj:K<=s.size:=by rw[<-Q,<-G];exact List.count_le_length
 have R:=fun W=>Any.strings_Count_one { Tryz.lays154 with } s 0 W;rw[show Lib.countByte s.data.toList 0=K by rw[l];exact Q] at R;have P:=qQ l;have HK:=qQ Q;rw[l];clear l Q;by_cases h0:K=0
 ·subst h0
  have he:(⟨(zs.filter (·≠0)).toArray⟩:ByteArray)=s:=by
   rw[a8Z HK.out,<-P.out]
  rw[he];clear he;go_enter func174,ntmps174;go_wp2_with (go_at_call 193;refine(R _).mono ?_;rintro e w' ⟨rfl,I⟩;rw[I]);go_ret;exact⟨rfl,uQ _ _⟩
 ·have am:((K:Int) == 0)=false:=by simpa using h0
  obtain⟨g,hg⟩:∃ g,s.size - K=g:=⟨_,rfl⟩;have D:(s.size:Int) + -(K:Int)=(g:Int):=by omega
  have o:=qQ D;have kg:=Any.Builder_Grow_fresh { Tryz.lays154 with } Tryz.Builder_Extra_154 w.heap.size w.heap.size g (w.alloc (.cells #[.pointer none,.slice none 0 0] 260)) (vQ _) (lL w _) (by simp) (by omega);clear hg D;go_enter func174,ntmps174;go_wp2_with (go_at_call 193;refine(R _).mono ?_;rintro e w' ⟨rfl,I⟩;rw[I]);rw[o.out];refine kg.mono ?_;rintro e w1 ⟨rfl,z,A⟩;have H1:Hid (Lib.IsBuilder 260 5 w.heap.size w.heap.size (Lib.byteCells ((zs.take 0).filter (·≠0))) w1):=Or.inr z;have T:Hid (xQ w w1):=((uQ w.heap.size w).alloc (vQ _) _).trans A;clear z A kg R o;go_wp2_with fail
  go_loopw [11,53] (fun t11 t53 wx=>∃ (i st:Nat),t53=int i64 (i:Int)/\t11=int i64 (st:Int)/\i<=K/\st<=s.size/\Hid (Lib.IsBuilder 260 5 w.heap.size w.heap.size (Lib.byteCells ((zs.take st).filter (·≠0))) wx)/\Hid (xQ w wx)/\Hid ((zs.drop st).count 0+i=K)) (fun _ t53 _=>K - (intOf t53).toNat)
  case atStart=>exact⟨0,0,rfl,rfl,dQ _,dQ _,H1,T,HK⟩
  case round =>
   obtain⟨i,st,rfl,rfl,hi,an,S,O,N⟩:=hrel;have v:w.heap.size<=wr.heap.size:=O.out.size;have c1:(0:Int)<=(st:Int):=by omega
   have c2:(st:Int)<=(s.size:Int):=by omega
   have ak:((zs.take st).filter (·≠0)).length<=32:=by
    have:=List.length_filter_le (·≠0) (zs.take st);rw[lU] at this;omega
   by_cases h1:i<K
   ·obtain⟨j,hj,a6,E,F⟩:=a8X (zs.drop st) (by have:=N.out;omega)
    rw[pF] at a6;have c3:(st:Int)<=(st:Int)+(j:Int):=by omega
    have c4:(st:Int)+(j:Int)<=(s.size:Int):=by omega
    have Z:(i:Int)<(K:Int):=by omega
    have ki:=fun W=>Any.strings_Index_one { Tryz.lays154 with } (s.extract st s.size) 0 W;rw[Lib.extract_to_end,P.out,hj] at ki
    have H:(zs.take (st+j+1)).filter (·≠0)=(zs.take st).filter (·≠0)++(zs.drop st).take j:=by
     rw[show st+j+1=st+(j+1) by omega,List.take_add,zN,E]
    have p:Hid (Lib.byteCells ((zs.take st).filter (·≠0))++Lib.strCells (s.extract st (st+j))++Lib.strCells ⟨#[]⟩=Lib.byteCells ((zs.take (st+j+1)).filter (·≠0))):=by
     rw[Hid,H,Lib.strCells_eq,Lib.strCells_eq,Lib.extract_data,Nat.add_sub_cancel_left,P.out,Lib.byteCells_append];simp[Lib.byteCells]
    have X:Hid ((zs.drop (st+j+1)).count 0+(i+1)=K):=by
     have h:=N.out;rw[List.drop_drop,show st+(j+1)=st+j+1 by omega] at F;rw[Hid];omega
    clear hj E F H;go_wp2_with (go_at_call 195;refine(ki _).mono ?_;rintro e w' ⟨rfl,I⟩;rw[I]);refine(Any.Builder_WriteString { Tryz.lays154 with } Tryz.Builder_Extra_154 w.heap.size w.heap.size _ (s.extract st (st+j)) wr S.out (by rw[Lib.byteCells_length,ByteArray.size_extract];omega) v).mono ?_;rintro e L ⟨rfl,m,k⟩;have M:=qQ m;have a:=qQ (O.out.trans k);have y:w.heap.size<=L.heap.size:=a.out.size;clear m k;go_wp2_with fail;refine(Any.Builder_WriteString { Tryz.lays154 with } Tryz.Builder_Extra_154 w.heap.size w.heap.size _ ⟨#[]⟩ L (Or.inr M.out) (by rw[sY,Lib.byteCells_length,Lib.strCells_length,ByteArray.size_extract];show _+0<=_;omega) y).mono ?_;rintro e w4 ⟨rfl,Y,B⟩;rw[p.out] at Y;have H4:Hid (Lib.IsBuilder 260 5 w.heap.size w.heap.size (Lib.byteCells ((zs.take (st+j+1)).filter (·≠0))) w4):=Or.inr Y;have U:=qQ (a.out.trans B);clear Y B ki M a S O N p;go_wp2
    go_roundw
    ·exact⟨i+1,st+j+1,by go_num,by go_num,h1,by omega,H4,U,X⟩
    ·simp[intOf];omega
   ·obtain rfl:i=K:=by omega
    have Z:¬ ((i:Int)<(i:Int)):=by omega
    have J:(zs.drop st).count 0=0:=by have:=N.out;omega
    have HF:Hid (Lib.byteCells ((zs.take st).filter (·≠0))++Lib.strCells (s.extract st s.size)=Lib.byteCells (zs.filter (·≠0))):=by
     rw[Hid,Lib.strCells_eq,Lib.extract_to_end,P.out,<-Lib.byteCells_append];congr 1
     conv=>rhs;rw[<-xN st zs,zN,a8Z J]
    clear J;go_wp2_with fail;refine(Any.Builder_WriteString { Tryz.lays154 with } Tryz.Builder_Extra_154 w.heap.size w.heap.size _ _ wr S.out (by rw[Lib.byteCells_length,ByteArray.size_extract];omega) v).mono ?_;rintro e L ⟨rfl,m,k⟩;rw[HF.out] at m;have M:Hid (Lib.IsBuilder 260 5 w.heap.size w.heap.size (Lib.byteCells (zs.filter (·≠0))) L):=Or.inr m;have a:=qQ (O.out.trans k);clear m k;go_wp2_with fail;refine(Any.Builder_String_any { Tryz.lays154 with } Tryz.Builder_Extra_154 w.heap.size w.heap.size _ L M.out a.out.size).mono ?_;rintro e w5 ⟨rfl,C⟩;have V:=qQ (a.out.trans C);clear C;go_wp2;go_ret;exact⟨by simp,V.out⟩
theorem daZ (s:ByteArray)(h:s.size<=32)(w:World) :
  Calls prog 129 #[.string s,.string ⟨#[0]⟩,.string ⟨#[]⟩] w (iQ w (.string ⟨(s.data.toList.filter (·≠0)).toArray⟩)):=by
 have k:=daX s h w;go_enter func129,ntmps129;go_wp2_with fail;refine k.mono ?_;rintro e i ⟨rfl,a⟩;have g:=qQ a;clear a k;go_wp2;go_ret;exact⟨by simp,g.out⟩
theorem daJ (bs:List Nat)(h:∀ b∈bs,b<256):((bs.map UInt8.ofNat).filter (·≠0))=(bs.filter (·≠0)).map UInt8.ofNat:=by
 induction bs with
 | nil=>rfl
 | cons b bs ih =>
  have g:=h b (by simp)
  have e:(UInt8.ofNat b=0)↔b=0:=by
   constructor
   ·intro a
    have:=congrArg UInt8.toNat a;rwa [UInt8.toNat_ofNat_of_lt' g] at this
   ·rintro rfl;rfl
  rw[aI];by_cases c:b=0
  ·subst c
   rw[List.filter_cons_of_neg (by simp),List.filter_cons_of_neg (by simp),ih (fun x hx=>h x (by simp[hx]))]
  ·rw[List.filter_cons_of_pos (by simpa using fun a=>c (e.1 a)),List.filter_cons_of_pos (by simpa using c),aI,ih (fun x hx=>h x (by simp[hx]))]
theorem dbQ (x0 x1 x2 x3 x4 x5 x6 x7 x8:Int)(w:World) :
  Calls prog 81 #[.agg #[int i64 x0,int i64 x1,int i64 x2,int i64 x3,int i64 x4,int i64 x5,int i64 x6,int i64 x7,int i64 x8]] w (iQ w (.string (jY (dY [x5,x6,x7,x8])))):=by
 obtain⟨X,p⟩:∃ X,w.alloc (.cells #[int i64 x0,int i64 x1,int i64 x2,int i64 x3,int i64 x4,int i64 x5,int i64 x6,int i64 x7,int i64 x8] 121)=X:=⟨_,rfl⟩;have C:Hid (oX X w.heap.size [x0,x1,x2,x3,x4,x5,x6,x7,x8]):=p▸oX.new _ _ _ _ _ _ _ _ _ 121 rfl;have B:Hid (xQ w X):=p▸ba _ _;have y:=c7X [x0,x1,x2,x3,x4,x5,x6,x7,x8] w.heap.size X rfl C.out.2;obtain⟨l,i⟩:∃ l,wby [x0,x1,x2,x3,x4,x5,x6,x7,x8]=l:=⟨_,rfl⟩;have A:l.length=32:=by rw[<-i];exact a4Z rfl
 have m:Hid (∀ b∈l,b<256):=by rw[<-i];exact a4J _
 have o:Hid (jY (dY [x5,x6,x7,x8])=⟨((jY l).data.toList.filter (·≠0)).toArray⟩):=by
  have h:=c6Z [x0,x1,x2,x3,x4,x5,x6,x7,x8];rw[i] at h;have D:dY [x5,x6,x7,x8]=l.filter (·≠0):=h;rw[Hid,D];show(⟨((l.filter (·≠0)).map UInt8.ofNat).toArray⟩:ByteArray)=⟨(((l.map UInt8.ofNat).toArray.toList).filter (·≠0)).toArray⟩;rw[<-daJ l m.out]
 have v:(jY l).size<=32:=by
  have:(jY l).size=l.length:=by simp[jY,ByteArray.size]
  omega
 have z:=fun W=>daZ (jY l) v W;rw[i] at y;rw[<-o.out] at z;clear i;go_enter func81,ntmps81;go_wp2_with fail;clear p;refine y.mono ?_;rintro e E ⟨rfl,a⟩;have j:=qQ (bt B.out a);clear y a;go_wp2_with fail;refine(z _).mono ?_;rintro e F ⟨rfl,g⟩;have k:=qQ (bt j.out g);clear z g;go_wp2;go_ret;exact⟨by simp,k.out⟩
end K.P
namespace K.P
open Go.RowKit K.Ds
theorem a8J (xs:Array Value)(i:Nat)(v:Value)(w:World)(h:xs[i]? = some v):(part 2 xs i).run prog w=.ok v w:=by
 unfold part;simp only[Sem.run_bind,Tryz.isAgg2,oH,h,Bool.false_eq_true,gK,jN]
theorem eqL (d:Nat)(X Y:Array Value)(w:World):∀ (n k:Nat) (xs ys:List Int),xs.length=n->ys.length=n->(∀ i x,xs[i]? = some x->X[k+i]? = some (int i64 x))->(∀ i y,ys[i]? = some y->Y[k+i]? = some (int i64 y)) ->
  (forIn (List.range' k n) ((none,()):Option Bool × Unit) fun i _=>do
    let a <-part 2 X i
    let b <-part 2 Y i
    let e <-Op.equalIn (d+1) 2 a b
    if (!e)=true then pure (ForInStep.done (some false,())) else pure (ForInStep.yield (none,()))).run prog w=.ok (if xs=ys then (none,()) else (some false,())) w
 | 0,k,xs,ys,hx,hy,_,_=>by
  obtain rfl:=oL.1 hx;obtain rfl:=oL.1 hy;simp[jN]
 | n+1,k,x::xs,y::ys,hx,hy,hX,hY=>by
  have l:=eqL d X Y w n (k+1) xs ys (by simpa using hx) (by simpa using hy) (fun i z hz=>by rw[show k+1+i=k+(i+1) by omega];exact hX (i+1) z (by simpa using hz)) (fun i z hz=>by rw[show k+1+i=k+(i+1) by omega];exact hY (i+1) z (by simpa using hz));have g:=hX 0 x rfl;have h:=hY 0 y rfl;rw[fI] at g h;rw[List.range'_succ,List.forIn_cons];simp only[Sem.run_bind,a8J X k _ w g,a8J Y k _ w h,oH,run_equalIn_int w d 2 .i64 .i64 x y underlying2];by_cases c:x=y
  ·subst c
   simp only[beq_self_eq_true,Bool.not_true,Bool.false_eq_true,gK,jN,oH];rw[l];simp
  ·have j:(x == y)=false:=by simpa using c
   simp[j,c,jN,oH]
theorem eq9 (w:World)(x0 x1 x2 x3 x4 x5 x6 x7 x8 y0 y1 y2 y3 y4 y5 y6 y7 y8:Int):(binOp .eql 121 (.agg #[int i64 x0,int i64 x1,int i64 x2,int i64 x3,int i64 x4,int i64 x5,int i64 x6,int i64 x7,int i64 x8]) (.agg #[int i64 y0,int i64 y1,int i64 y2,int i64 y3,int i64 y4,int i64 y5,int i64 y6,int i64 y7,int i64 y8])).run prog w=.ok (.bool (decide ([x0,x1,x2,x3,x4,x5,x6,x7,x8]=[y0,y1,y2,y3,y4,y5,y6,y7,y8]))) w:=by
 have a:∀ d:Nat,(Op.equalIn (d+1+1) 121 (.agg #[int i64 x0,int i64 x1,int i64 x2,int i64 x3,int i64 x4,int i64 x5,int i64 x6,int i64 x7,int i64 x8]) (.agg #[int i64 y0,int i64 y1,int i64 y2,int i64 y3,int i64 y4,int i64 y5,int i64 y6,int i64 y7,int i64 y8])).run prog w=.ok (decide ([x0,x1,x2,x3,x4,x5,x6,x7,x8]=[y0,y1,y2,y3,y4,y5,y6,y7,y8])) w:=by
  intro d;rw[Op.equalIn];simp only[Sem.run_bind,run_underlying underlying121,oH,Std.Legacy.Range.forIn_eq_forIn_range',Std.Legacy.Range.size,Nat.sub_zero,Nat.add_one_sub_one,Nat.div_one];rw[Tryz.sizeOf2];simp only[oH,Nat.mul_one]
  rw[eqL d _ _ w 9 0 [x0,x1,x2,x3,x4,x5,x6,x7,x8] [y0,y1,y2,y3,y4,y5,y6,y7,y8] rfl rfl (fun i x hi=>by
   match i,hi with
   | 0,hi | 1,hi | 2,hi | 3,hi | 4,hi | 5,hi | 6,hi | 7,hi | 8,hi=>cases hi;rfl) (fun i x hi=>by
   match i,hi with
   | 0,hi | 1,hi | 2,hi | 3,hi | 4,hi | 5,hi | 6,hi | 7,hi | 8,hi=>cases hi;rfl)]
  by_cases c:[x0,x1,x2,x3,x4,x5,x6,x7,x8]=[y0,y1,y2,y3,y4,y5,y6,y7,y8]
  ·rw[jQ c,sJ c];simp[jN,oH]
  ·rw[zQ c,lZ c];simp[jN,oH]
 rw[run_eql_struct];have h:=a 9998;rw[show(10000:Nat)=9998+1+1 from rfl,h];rfl
