import Derived.Test.YtcaplmodgbpchaaGreatDoorQq27
import Derived.Test.YtcaplmodgbpchaaGreatDoorQq20
import Derived.Laws.Bits
open Go.Proofs.Tryz
open Go.Value(int)
open Go.IntKind(i64)
set_option linter.unusedSimpArgs false
set_option maxHeartbeats 16000000
set_option maxRecDepth 100000
namespace Go.Proofs.YtcaplmodgbpchaaGreatDoor
variable {bk bm bw c i k n:Nat} {b w w':World} {N N':Nat->Prop} {r:Option Nat} {v vv:Value} {x:ByteArray} {t:Bool} {P Q:Int->Prop} {a:Option Addr} {p:Addr} {disk:List Int}
namespace K.P
open Go.RowKit K.Ds
open Go.WideMaps (keyOf_string_mk)
theorem tN {done:List En}{e:En}(a:mZ e=0)(g:done.length<4096):zZ done e=match iX done e.2.1 with
 | none=>if e.1=1 then (if 64<=(bY done).length then 5 else 0) else 7
 | some b=>if e.1=1 then 7 else
  if e.1=3/\(e.2.2.1<0\/1073741824<e.2.2.1) then 3 else
  if e.1=3/\64<(bZ (done++[e]) e.2.1).length then 5 else
  if (cJ (done++[e]) e.2.1).2≠0 then (cJ (done++[e]) e.2.1).2 else if sX (cJ (done++[e]) e.2.1).1 b then 0 else 10:=by
 unfold zZ;rw[zQ (by omega),zQ (by omega)];cases iX done e.2.1 <;> rfl
theorem azX (s:Rq × Int)(b a m:Rq)(h:s=oQ a m):(if s.2≠0 then s.2 else if sX s.1 b then 0 else 10)=jH b a m:=by
 subst h;unfold jH;by_cases c:(oQ a m).2=0 <;> simp[c]
theorem csJ {done:List En}(h:Inv done){e:En}(j:mZ e=0)(l:done.length<4096)(k:e.1=2){b:Rq}(a:iX done e.2.1=some b) :
  zZ done e=sN b (kX done e.2.1).1 e.2.2.2 (oZ (mQ done e.2.1) pX (prs done e.2.1)).1:=by
 rw[tN j l,a];simp only;rw[zQ (by omega),zQ (by omega),zQ (by omega)];unfold sN;rcases aE h k (fD j).2.2.2 with⟨g,i⟩|⟨g,_,_,i⟩
 ·rw[g,i];simp
 ·rw[jQ g];exact azX _ _ _ _ i
theorem ctQ {done:List En}(h:Inv done){e:En}(o:mZ e=0)(z:done.length<4096)(j:e.1=3){b:Rq}(a:iX done e.2.1=some b)(m:Rq)
  (A:(oQ (mQ done e.2.1 e.2.2.1).1 e.2.2.2).2=0->Top (fun p=>(mQ (done++[e]) e.2.1 p).1) (fun p=>p∈prs (done++[e]) e.2.1) m) :
  zZ done e=sI b (kX done e.2.1).1 (mQ done e.2.1 e.2.2.1).1 e.2.2.2 m (decide (e.2.2.1∈prs done e.2.1)) (bZ done e.2.1).length e.2.2.1:=by
 have v:¬ e.1=1:=by omega
 rw[tN o z,a];simp only;rw[zQ v];unfold sI;by_cases c1:e.2.2.1<0\/1073741824<e.2.2.1
 ·rw[jQ ⟨j,c1⟩,jQ c1]
 rw[zQ (fun c=>c1 c.2),zQ c1];have y:=h.par e.2.1
 have g:(64<(bZ (done++[e]) e.2.1).length)↔(decide (e.2.2.1∈prs done e.2.1)=false/\64<=(bZ done e.2.1).length):=by
  rw[rS];by_cases c:e.2.2.1∈prs done e.2.1
  ·rw[zQ (fun k=>k.2.2 ((pS _ _ _).2 c))];simp[c];omega
  ·rw[jQ ⟨rfl,j,fun k=>c ((pS _ _ _).1 k)⟩];simp[c];omega
 by_cases c2:decide (e.2.2.1∈prs done e.2.1)=false/\64<=(bZ done e.2.1).length
 ·rw[jQ ⟨j,g.2 c2⟩,jQ c2]
 rw[zQ (fun c=>c2 (g.1 c.2)),zQ c2];rcases bE h j (fD o).2.2.2 with⟨i,l⟩|⟨i,_,_,l,_⟩
 ·rw[i,l];simp
 ·rw[jQ i];exact azX _ _ _ _ (l m (A i))
theorem ctX {done:List En}(h:Inv done){n:ByteArray}(j:iX done n=none):prs done n=[]/\kX done n=(pX,0):=by
 have l:prs done n=[]:=by
  unfold prs;rw[yS,pC];intro x g;simp only[dJ];rintro⟨i,_⟩;obtain⟨_,_,_,b',a⟩:=h.bad x g;rw[i,j] at a;cases a
 have k:lss done n 2 0=[]:=by
  unfold lss;rw[yS,pC];intro x g;simp only[qD,dJ];rintro⟨i,_⟩;obtain⟨_,_,_,b',a⟩:=h.bad x g;rw[i,j] at a;cases a
 exact⟨l,by unfold kX;rw[k];rfl⟩
def yG (e:En):List Value:=[int i64 e.1,.string e.2.1,int i64 e.2.2.1,int i64 e.2.2.2.1,int i64 e.2.2.2.2]
def enc (l:List En):List Value:=l.flatMap yG
theorem bM (l:List En):(enc l).length=l.length*5:=by
 induction l with
 | nil=>rfl
 | cons e l ih=>simp only[enc,eC,sY,cD] at *;rw[ih];simp[yG];omega
theorem wN (l:List En)(e:En):enc (l++[e])=enc l++yG e:=by simp[enc]
abbrev kN (n:ByteArray):Lit:=.string n.data.toList
structure PurM (w:World) (N:Nat->Prop) (bk bm:Nat) (D:DataW Value) (done:List En) (n:ByteArray) (b:Rq):Prop where
 ex:∃ bp np Dp,D.atKey (kN n) (.held zp)=.held (pv b (kX done n).1 bp)/\Pts w bp np Dp (fun p=>p∈prs done n) (fun p=>(mQ done n p).1)/\np<=done.length/\Maps.size Dp=(bZ done n).length/\N bp/\bp≠bk/\bp≠bm
structure BookM (w:World) (N:Nat->Prop) (bk bm n:Nat) (v:Value) (D:DataW Value) (done:List En):Prop where
 inv:Inv done
 two:TwoB w bk (.map (some bm)) v
 own:w.ownsMap prog 9 hR bm n D
 row:w.ownsRow 0 72 5 v done.length (enc done)
 cnt:n<=done.length
 is:∀ x:ByteArray,Maps.has D (kN x)=true↔∃ b,iX done x=some b
 el:∀ x b,iX done x=some b->PurM w N bk bm D done x b
 sz:Maps.size D=(bY done).length
 lob:N bk/\N bm/\bk≠bm/\∀ g,v.ownBlock=some g->N g/\g≠bk/\g≠bm
theorem PurM.gb {D:DataW Value}{done:List En}{n:ByteArray}{b:Rq}(h:PurM w N bk bm D done n b)(y:w.grownBy w' r)(z:∀ k,r=some k->¬ N k\/k=bk\/k=bm):PurM w' N bk bm D done n b:=by
 obtain⟨a,A,l,m,o,p,v,g,i,j⟩:=h.ex;exact⟨a,A,l,m,o.gb y (fun e=>by rcases z a e.symm with h|h|h;exact h g;exact i h;exact j h),p,v,g,i,j⟩
theorem BookM.gb {D:DataW Value}{done:List En}(h:BookM w N bk bm n v D done)(i:w.grownBy w' r)(l:∀ k,r=some k->¬ N k):BookM w' N bk bm n v D done:=by
 obtain⟨m,o,y,p⟩:=h.lob;have j:w'.heap[bk]? = w.heap[bk]?:=i.block bk h.two.lt (fun e=>l bk e.symm m);refine⟨h.inv,⟨(vJ (w:=w) (a:=⟨bk,0,none⟩) j).trans h.two.c0,(vJ (w:=w) (a:=⟨bk,1,none⟩) j).trans h.two.c1,(nV (w:=w) (a:=⟨bk,0,none⟩) j).trans h.two.f0,(nV (w:=w) (a:=⟨bk,1,none⟩) j).trans h.two.f1,lQ h.two.lt i.size⟩,h.own.kept i (fun e=>l bm e.symm o),?_,h.cnt,h.is,fun x b hx=>(h.el x b hx).gb i (fun k e=>.inl (l k e)),h.sz,h.lob⟩;refine h.row.kept i ?_;cases hv:v.ownBlock with
 | none=>exact .inl rfl
 | some g =>
  right;intro e;exact l g e.symm (p g hv).1
theorem BookM.mono {D:DataW Value}{done:List En}(h:BookM w N bk bm n v D done)(a:∀ k,k<w.heap.size->N k->N' k):BookM w N' bk bm n v D done:=by
 obtain⟨i,j,l,m⟩:=h.lob;refine⟨h.inv,h.two,h.own,h.row,h.cnt,h.is,fun x b hx=>?_,h.sz,a _ h.two.lt i,a _ h.own.lt j,l,fun g hg=>?_⟩
 ·obtain⟨y,G,p,z,o,A,B,C,E,F⟩:=(h.el x b hx).ex
  exact⟨y,G,p,z,o,A,B,a _ o.own.lt C,E,F⟩
 ·have:=m g hg
  refine⟨a g ?_ this.1,this.2⟩;rcases h.row.2 with⟨rfl,_⟩|⟨H,cap,cur,rfl,_,hc,_⟩
  ·cases hg
  ·simp only[Value.ownBlock,aZ] at hg
   subst hg;exact(mY.1 hc).1
theorem BookM.keep {D:DataW Value}{done:List En}(h:BookM w N bk bm n v D done)(a:xQ w w'):BookM w' N bk bm n v D done:=h.gb (cZ a) (by simp)
def ctZ (w:World) (N:Nat->Prop) (bk bm:Nat) (done:List En) (e:En) (er:Int):Ending->World->Prop:=fun x w' =>
 xQ w w'/\((er≠0/\x=.returned (.tuple #[zp,int i64 er])) \/
  (er=0/\∃ b bp np Dp,x=.returned (.tuple #[pv b (kX (done++[e]) e.2.1).1 bp,int i64 0])/\iX (done++[e]) e.2.1=some b /\
   Pts w' bp np Dp (fun p=>p∈prs (done++[e]) e.2.1) (fun p=>(mQ (done++[e]) e.2.1 p).1)/\np<=done.length+1/\Maps.size Dp=(bZ (done++[e]) e.2.1).length/\N bp/\bp≠bk/\bp≠bm))
theorem BookM.lookAt {D:DataW Value}{done:List En}(h:BookM w N bk bm n v D done)(l:x.size<=4294967296)(k:D.atKey (kN x) (.held zp)=.held vv)(j:Maps.has D (kN x)=t)(i:w.grownBy w' none) :
  (Instr.lookup 115 (.map (some bm)) (.string x) true).run prog w' = .ok (.tuple #[vv,.bool t]) w':=by
 obtain⟨m,ps,g,a⟩:=(h.gb i (by simp)).own.look_ok qW underlying115 (coZ w') (zd:=.held zp) (zp:=[]) rfl (Go.WideMaps.keyOf_string_mk underlying9 (s:=x) (by unfold maxLen;omega));rw[k] at a;simp[hR] at a;rw[g,a.1,j]
theorem BookM.has_no {D:DataW Value}{done:List En}(h:BookM w N bk bm n v D done)(i:iX done x=none):Maps.has D (kN x)=false/\D.atKey (kN x) (.held zp)=.held zp:=by
 have g:Maps.has D (kN x)=false:=by
  cases hc:Maps.has D (kN x) with
  | false=>rfl
  | true=>obtain⟨b,a⟩:=(h.is x).1 hc;rw[i] at a;cases a
 exact⟨g,Maps.atKey_of_not_has g _⟩
def ctJ (w:World) (u v' er:Int):Ending->World->Prop:=fun x w'=>xQ w w'/\((er≠0/\x=.returned (.tuple #[zp,int i64 er]))\/(er=0/\∃ bp,x=.returned (.tuple #[pv (u,v') pX bp,int i64 0])/\w.heap.size<=bp/\Pts w' bp 0 (.map []) (fun _=>False) (fun _=>pX)))
def cuQ (w:World) (N:Nat->Prop) (bk bm:Nat) (done:List En) (nm:ByteArray) (b al:Rq) (er:Int):Ending->World->Prop:=fun x w'=>xQ w w'/\((er≠0/\x=.returned (.tuple #[zp,int i64 er]))\/(er=0/\∃ bp np Dp,x=.returned (.tuple #[pv b al bp,int i64 0])/\Pts w' bp np Dp (fun p=>p∈prs done nm) (fun p=>(mQ done nm p).1)/\np<=done.length/\Maps.size Dp=(bZ done nm).length/\N bp/\bp≠bk/\bp≠bm))
def cuX (w:World) (done:List En) (nm:ByteArray) (b al q:Rq) (p er:Int):Ending->World->Prop:=fun x w'=>xQ w w'/\((er≠0/\x=.returned (.tuple #[zp,int i64 er]))\/(er=0/\∃ bp np Dp,x=.returned (.tuple #[pv b al bp,int i64 0])/\Pts w' bp (np+1) Dp (fun y=>y∈prs done nm\/y=p) (fun y=>if y=p then q else (mQ done nm y).1)/\np<=done.length/\Maps.size Dp=(if decide (p∈prs done nm) then (bZ done nm).length else (bZ done nm).length+1)/\w.heap.size<=bp))
theorem cuZ (N:Nat->Prop)(bk bm n:Nat)(v:Value)(D:DataW Value)(done:List En)(nm:ByteArray)(p u E:Int)(w:World)(hB:BookM w N bk bm n v D done)(L:nm.size<=4294967296)(b:Rq)(a:iX done nm=some b) :
  Calls prog 83 #[.pointer (some ⟨bk,0,none⟩),ev (1,nm,p,u,E)] w fun x w'=>xQ w w'/\x=.returned (.tuple #[zp,int i64 7]):=by
 have M:=qQ hB;obtain⟨j,i⟩:∃ j,(w.alloc (.cells #[int i64 1,.string nm,int i64 p,int i64 u,int i64 E] 72)).alloc (.cells #[int i64 0,int i64 0,int i64 0,int i64 0,.map none] 166)=j:=⟨_,rfl⟩;have V:j.heap.size=w.heap.size+1+1:=by rw[<-i];simp
 have F:xQ w j:=by rw[<-i];exact bal (ba _ _) _
 have O:Hid (FivB j w.heap.size (int i64 1) (.string nm) (int i64 p) (int i64 u) (int i64 E)):=by rw[<-i];exact(FivB.new _ _ _ _ _ _ 72 _ rfl).below (ba _ _)
 have P:Hid (FivB j (w.heap.size+1) (int i64 0) (int i64 0) (int i64 0) (int i64 0) (.map none)):=by rw[<-i];exact FivB.new _ _ _ _ _ _ 166 _ (by simp)
 have z:=qQ (hB.keep F);obtain⟨bp,np,Z,h,A,C,y,o,l,m⟩:=(hB.el nm b a).ex;have g:Maps.has D (kN nm)=true:=(hB.is nm).2 ⟨b,a⟩;clear C y o l m A a;obtain⟨G,k⟩:∃ G,(kX done nm).1=G:=⟨_,rfl⟩;rw[k] at h;clear k;have I:=z.out.lookAt L h g (kV (wX j none));have J:=z.out.lookAt L h g (kV (fG (wX j none) (.cells #[int i64 0,int i64 0,int i64 0,int i64 0,.map none] 166)));obtain⟨c0,c1,c2,c3,c4,f0,f1,f2,f3,f4,T⟩:=O.out;obtain⟨d0,d1,d2,Q,R,g0,g1,g2,g3,g4,B⟩:=P.out;obtain⟨t0,t1,X,Y,U⟩:=z.out.two;have S:bk<w.heap.size:=M.out.two.lt;have H:bk<w.heap.size+1+1:=by omega
 clear hB h g;go_enter func83,ntmps83;go_wp2_with fail
 go_region
 all_goals go_wp2_with fail
 all_goals exact eQ (v:=.tuple #[zp,int i64 7]) (by simp[results,results83,go_sem,d0,d1,d2,Q,R,B]) rfl ⟨(bal (eY F (by omega) _ _ _ _ _) _).drew,rfl⟩
theorem cuJ (N:Nat->Prop)(bk bm n:Nat)(v:Value)(D:DataW Value)(done:List En)(nm:ByteArray)(p u m:Int)(w:World)(hB:BookM w N bk bm n v D done)(B:nm.size<=4294967296)(h:iX done nm=none) :
  Calls prog 83 #[.pointer (some ⟨bk,0,none⟩),ev (2,nm,p,u,m)] w fun x w'=>xQ w w'/\x=.returned (.tuple #[zp,int i64 7]):=by
 have C:=qQ hB;obtain⟨i,g⟩:∃ i,(w.alloc (.cells #[int i64 2,.string nm,int i64 p,int i64 u,int i64 m] 72)).alloc (.cells #[int i64 0,int i64 0,int i64 0,int i64 0,.map none] 166)=i:=⟨_,rfl⟩;have M:i.heap.size=w.heap.size+1+1:=by rw[<-g];simp
 have o:xQ w i:=by rw[<-g];exact bal (ba _ _) _
 have E:Hid (FivB i w.heap.size (int i64 2) (.string nm) (int i64 p) (int i64 u) (int i64 m)):=by rw[<-g];exact(FivB.new _ _ _ _ _ _ 72 _ rfl).below (ba _ _)
 have F:Hid (FivB i (w.heap.size+1) (int i64 0) (int i64 0) (int i64 0) (int i64 0) (.map none)):=by rw[<-g];exact FivB.new _ _ _ _ _ _ 166 _ (by simp)
 have k:=qQ (hB.keep o);obtain⟨a,j⟩:=hB.has_no h;clear h;have z:=k.out.lookAt B j a (kV (wX i none));have A:=k.out.lookAt B j a (kV (fG (wX i none) (.cells #[int i64 0,int i64 0,int i64 0,int i64 0,.map none] 166)));obtain⟨c0,c1,c2,c3,c4,f0,f1,f2,f3,f4,J⟩:=E.out;obtain⟨d0,d1,d2,G,H,Q,R,g2,S,T,l⟩:=F.out;obtain⟨t0,t1,O,P,L⟩:=k.out.two;have I:bk<w.heap.size:=C.out.two.lt;have y:bk<w.heap.size+1+1:=by omega
 clear hB j a;go_enter func83,ntmps83;go_wp2_with fail
 go_region
 all_goals go_wp2_with fail
 all_goals exact eQ (v:=.tuple #[zp,int i64 7]) (by simp[results,results83,go_sem,d0,d1,d2,G,H,l]) rfl ⟨(bal (eY o (by omega) _ _ _ _ _) _).drew,rfl⟩
theorem cvQ (N:Nat->Prop)(bk bm n:Nat)(v:Value)(D:DataW Value)(done:List En)(nm:ByteArray)(p u m:Int)(w:World)(hB:BookM w N bk bm n v D done)(B:nm.size<=4294967296)(h:iX done nm=none) :
  Calls prog 83 #[.pointer (some ⟨bk,0,none⟩),ev (3,nm,p,u,m)] w fun x w'=>xQ w w'/\x=.returned (.tuple #[zp,int i64 7]):=by
 have C:=qQ hB;obtain⟨i,g⟩:∃ i,(w.alloc (.cells #[int i64 3,.string nm,int i64 p,int i64 u,int i64 m] 72)).alloc (.cells #[int i64 0,int i64 0,int i64 0,int i64 0,.map none] 166)=i:=⟨_,rfl⟩;have M:i.heap.size=w.heap.size+1+1:=by rw[<-g];simp
 have o:xQ w i:=by rw[<-g];exact bal (ba _ _) _
 have E:Hid (FivB i w.heap.size (int i64 3) (.string nm) (int i64 p) (int i64 u) (int i64 m)):=by rw[<-g];exact(FivB.new _ _ _ _ _ _ 72 _ rfl).below (ba _ _)
 have F:Hid (FivB i (w.heap.size+1) (int i64 0) (int i64 0) (int i64 0) (int i64 0) (.map none)):=by rw[<-g];exact FivB.new _ _ _ _ _ _ 166 _ (by simp)
 have k:=qQ (hB.keep o);obtain⟨a,j⟩:=hB.has_no h;clear h;have z:=k.out.lookAt B j a (kV (wX i none));have A:=k.out.lookAt B j a (kV (fG (wX i none) (.cells #[int i64 0,int i64 0,int i64 0,int i64 0,.map none] 166)));obtain⟨c0,c1,c2,c3,c4,f0,f1,f2,f3,f4,J⟩:=E.out;obtain⟨d0,d1,d2,G,H,Q,R,g2,S,T,l⟩:=F.out;obtain⟨t0,t1,O,P,L⟩:=k.out.two;have I:bk<w.heap.size:=C.out.two.lt;have y:bk<w.heap.size+1+1:=by omega
 clear hB j a;go_enter func83,ntmps83;go_wp2_with fail
 go_region
 all_goals go_wp2_with fail
 all_goals exact eQ (v:=.tuple #[zp,int i64 7]) (by simp[results,results83,go_sem,d0,d1,d2,G,H,l]) rfl ⟨(bal (eY o (by omega) _ _ _ _ _) _).drew,rfl⟩
theorem cvX (N:Nat->Prop)(bk bm n:Nat)(v:Value)(D:DataW Value)(done:List En)(nm:ByteArray)(p u o:Int)(w:World)(hB:BookM w N bk bm n v D done)(P:nm.size<=4294967296)(j:iX done nm=none)(k:Nat)(L:(bY done).length=k)(er:Int)(h:(if 64<=k then 5 else 0)=er) :
  Calls prog 83 #[.pointer (some ⟨bk,0,none⟩),ev (1,nm,p,u,o)] w (ctJ w u o er):=by
 have Q:=qQ hB;obtain⟨g,i⟩:∃ g,(w.alloc (.cells #[int i64 1,.string nm,int i64 p,int i64 u,int i64 o] 72)).alloc (.cells #[int i64 0,int i64 0,int i64 0,int i64 0,.map none] 166)=g:=⟨_,rfl⟩;have G:g.heap.size=w.heap.size+1+1:=by rw[<-i];simp
 have A:xQ w g:=by rw[<-i];exact bal (ba _ _) _
 have R:Hid (FivB g w.heap.size (int i64 1) (.string nm) (int i64 p) (int i64 u) (int i64 o)):=by rw[<-i];exact(FivB.new _ _ _ _ _ _ 72 _ rfl).below (ba _ _)
 have H:Hid (FivB g (w.heap.size+1) (int i64 0) (int i64 0) (int i64 0) (int i64 0) (.map none)):=by rw[<-i];exact FivB.new _ _ _ _ _ _ 166 _ (by simp)
 have m:=qQ (hB.keep A);obtain⟨a,l⟩:=hB.has_no j;clear j;have M:=m.out.lookAt P l a (kV (wX g none));have O:=m.out.lookAt P l a (kV (fG (wX g none) (.cells #[int i64 0,int i64 0,int i64 0,int i64 0,.map none] 166)));obtain⟨c0,c1,c2,c3,c4,f0,f1,f2,f3,f4,Y⟩:=R.out;obtain⟨d0,d1,d2,T,U,g0,g1,g2,g3,g4,F⟩:=H.out;obtain⟨t0,t1,a8,a9,a6⟩:=m.out.two;have V:bk<w.heap.size:=Q.out.two.lt;have I:bk<w.heap.size+1+1:=by omega
 clear hB l a;have z:=(m.out.gb (kV (fG (wX g none) (.cells #[int i64 0,int i64 0,int i64 0,int i64 0,.map none] 166))) (by simp)).own.len underlying115 3;rw[m.out.sz,L] at z;have X:k<=64:=by rw[<-L];exact m.out.inv.ops
 have ko:=fun W=>csX (u,o) (fun _=>pX) W;have S:Hid (FivB (g.alloc (.cells #[int i64 0,int i64 0,int i64 0,int i64 0,.map none] 166)).drew (w.heap.size+1) (int i64 0) (int i64 0) (int i64 0) (int i64 0) (.map none)):=(H.out.below (ba _ _)).gb (kV (wX _ none)) (by simp);go_enter func83,ntmps83;go_wp2_with fail
 go_region
 all_goals
  by_cases c:64<=k
  ·rw[jQ c] at h
   subst h;have Z:decide ((64:Int)<=(k:Int))=true:=sJ (by omega);go_wp2_with fail;exact eQ (v:=.tuple #[zp,int i64 5]) (by simp[results,results83,go_sem,d0,d1,d2,T,U,F]) rfl ⟨(bal (eY A (by omega) _ _ _ _ _) _).drew,.inl ⟨by decide,rfl⟩⟩
  ·rw[zQ c] at h
   subst h;have Z:decide ((64:Int)<=(k:Int))=false:=lZ (by omega);go_wp2_with fail;refine(ko _).mono ?_;rintro e1 w1 ⟨B,rfl,y,E,C⟩;obtain⟨x0,x1,x2,x3,x4,y0,y1,y2,y3,y4,hx⟩:=S.out.below y;have J:w.heap.size+1+1<B:=by simp[G] at E;omega
   go_wp2_with fail;exact eQ (v:=.tuple #[pv (u,o) pX B,int i64 0]) (by simp[results,results83,go_sem,x0,x1,x2,x3,x4]) rfl ⟨eY (bt (bal A _).drew y) (by omega) _ _ _ _ _,.inr ⟨rfl,B,rfl,by omega,C.gb (aX (aX (aX (aX (aX (wX _ _) _ _) _ _) _ _) _ _) _ _) (by simp;omega)⟩⟩
theorem cvZ (N:Nat->Prop)(bk bm n:Nat)(v:Value)(D:DataW Value)(done:List En)(nm:ByteArray)(p u E:Int)(w:World)(hB:BookM w N bk bm n v D done)(hs:nm.size<=4294967296)(b:Rq)(i:iX done nm=some b)(m:Rq)(ht:Top (fun p=>(mQ done nm p).1) (fun p=>p∈prs done nm) m)(X:pQ b)(V:pQ (u,E))(er:Int)(a:sN b (kX done nm).1 (u,E) m=er) :
  Calls prog 83 #[.pointer (some ⟨bk,0,none⟩),ev (2,nm,p,u,E)] w (cuQ w N bk bm done nm b (oQ (kX done nm).1 (u,E)).1 er):=by
 have S:=qQ hB;obtain⟨k,y⟩:∃ k,(w.alloc (.cells #[int i64 2,.string nm,int i64 p,int i64 u,int i64 E] 72)).alloc (.cells #[int i64 0,int i64 0,int i64 0,int i64 0,.map none] 166)=k:=⟨_,rfl⟩;have am:k.heap.size=w.heap.size+1+1:=by rw[<-y];simp
 have P:xQ w k:=by rw[<-y];exact bal (ba _ _) _
 have V0:Hid (FivB k w.heap.size (int i64 2) (.string nm) (int i64 p) (int i64 u) (int i64 E)):=by rw[<-y];exact(FivB.new _ _ _ _ _ _ 72 _ rfl).below (ba _ _)
 have Z:Hid (FivB k (w.heap.size+1) (int i64 0) (int i64 0) (int i64 0) (int i64 0) (.map none)):=by rw[<-y];exact FivB.new _ _ _ _ _ _ 166 _ (by simp)
 have R:=qQ (hB.keep P);obtain⟨h,O,H,o,J,M,C,B,z,A⟩:=(hB.el nm b i).ex;have j:Maps.has D (kN nm)=true:=(hB.is nm).2 ⟨b,i⟩;have Y:Hid (O<=done.length/\Maps.size H=(bZ done nm).length/\N h/\h≠bk/\h≠bm):=⟨M,C,B,z,A⟩;have I:=qQ J;clear M C B z A J i;obtain⟨l,G⟩:∃ l,(kX done nm).1=l:=⟨_,rfl⟩;have F:=qQ G;rw[G] at o;clear G;have a9:=R.out.lookAt hs o j (kV (wX k none));have aa:=R.out.lookAt hs o j (kV (fG (wX k none) (.cells #[int i64 0,int i64 0,int i64 0,int i64 0,.map none] 166)));obtain⟨c0,c1,c2,c3,c4,f0,f1,f2,f3,f4,ah⟩:=V0.out;obtain⟨d0,d1,d2,d3,d4,g0,g1,g2,g3,g4,ai⟩:=Z.out;obtain⟨t0,t1,an,ao,aj⟩:=R.out.two;have ag:bk<w.heap.size:=S.out.two.lt;have a7:bk<w.heap.size+1+1:=by omega
 clear hB o j;rw[F.out] at a;rw[F.out];have L:pQ l:=F.out▸(S.out.inv.all nm).2;have U:=S.out.inv.len;have Q:=fun W (hW:Pts W h O H (fun p=>p∈prs done nm) (fun p=>(mQ done nm p).1))=>crX b l (u,E) h O H _ _ W hW (by have:=Y.out.1;omega) m ht L X V er a;have T:Hid (Pts (k.alloc (.cells #[int i64 b.1,int i64 b.2,int i64 l.1,int i64 l.2,.map (some h)] 166)).drew h O H (fun p=>p∈prs done nm) (fun p=>(mQ done nm p).1)):=(I.out.keep (bal P _)).gb (kV (wX _ none)) (by simp);have W1:Hid (FivB (k.alloc (.cells #[int i64 b.1,int i64 b.2,int i64 l.1,int i64 l.2,.map (some h)] 166)).drew (w.heap.size+1) (int i64 0) (int i64 0) (int i64 0) (int i64 0) (.map none)):=(Z.out.below (ba _ _)).gb (kV (wX _ none)) (by simp);have a8:h<w.heap.size:=I.out.own.lt;clear a U ht;go_enter func83,ntmps83;go_wp2_with fail
 go_region
 all_goals
  by_cases a:er=0
  ·subst a
   simp only[↓reduceIte] at Q;go_wp2_with fail;refine(Q _ T.out).mono ?_;rintro e1 w1 ⟨rfl,g⟩;obtain⟨x0,x1,x2,x3,x4,y0,y1,y2,y3,y4,hx⟩:=W1.out.below g;go_wp2_with fail;exact eQ (v:=.tuple #[pv b (oQ l (u,E)).1 h,int i64 0]) (by simp[results,results83,go_sem,x0,x1,x2,x3,x4]) rfl ⟨eY (bt (bal P _).drew g) (by omega) _ _ _ _ _,.inr ⟨rfl,h,O,H,rfl,(T.out.keep g).gb (aX (aX (aX (aX (aX (wX _ _) _ _) _ _) _ _) _ _) _ _) (by simp;omega),Y.out⟩⟩
  ·simp only[a,↓reduceIte] at Q
   go_wp2_with fail;refine(Q _ T.out).mono ?_;rintro e1 w1 ⟨rfl,g⟩;obtain⟨x0,x1,x2,x3,x4,y0,y1,y2,y3,y4,hx⟩:=W1.out.below g;go_wp2_with fail;exact eQ (v:=.tuple #[zp,int i64 er]) (by simp[results,results83,go_sem,x0,x1,x2,x3,x4]) rfl ⟨eY (bt (bal P _).drew g) (by omega) _ _ _ _ _,.inl ⟨a,rfl⟩⟩
theorem cvJ (g j ls:Rq)(bm:Nat)(a:Int)(w:World)(i:a<0\/1073741824<a) :
  Calls prog 134 #[pv g j bm,int i64 a,rvq ls] w fun x w'=>x=.returned (.tuple #[zp,int i64 3])/\xQ w w':=by
 by_cases h:a<0
 ·clear i
  go_enter func134,ntmps134;go_wp2_with fail;exact eQ (v:=.tuple #[zp,int i64 3]) (by simp[results,results134,go_sem]) rfl ⟨rfl,bal (bal (ba _ _) _) _⟩
 ·have k:1073741824<a:=by omega
  clear i;go_enter func134,ntmps134;go_wp2_with fail;exact eQ (v:=.tuple #[zp,int i64 3]) (by simp[results,results134,go_sem]) rfl ⟨rfl,bal (bal (ba _ _) _) _⟩
theorem cwQ (N:Nat->Prop)(bk bm n:Nat)(v:Value)(D:DataW Value)(done:List En)(nm:ByteArray)(p u h:Int)(w:World)(hB:BookM w N bk bm n v D done)(hs:nm.size<=4294967296)(b:Rq)(j:iX done nm=some b)(o:Rq)(B:(mQ done nm p).1=o)(m:Rq)(ht:(oQ o (u,h)).2=0->Top (fun y=>if y=p then (oQ o (u,h)).1 else (mQ done nm y).1) (fun y=>y∈prs done nm\/y=p) m)(V:pQ b)(S:pQ (u,h))(er:Int)(a:sI b (kX done nm).1 o (u,h) m (decide (p∈prs done nm)) (bZ done nm).length p=er)(bb:-9223372036854775808<=p/\p<=9223372036854775807) :
  Calls prog 83 #[.pointer (some ⟨bk,0,none⟩),ev (3,nm,p,u,h)] w (cuX w done nm b (kX done nm).1 (oQ o (u,h)).1 p er):=by
 have HB:=qQ hB;obtain⟨l,C⟩:∃ l,(w.alloc (.cells #[int i64 3,.string nm,int i64 p,int i64 u,int i64 h] 72)).alloc (.cells #[int i64 0,int i64 0,int i64 0,int i64 0,.map none] 166)=l:=⟨_,rfl⟩;have ah:l.heap.size=w.heap.size+1+1:=by rw[<-C];simp
 have Z:xQ w l:=by rw[<-C];exact bal (ba _ _) _
 have V0:Hid (FivB l w.heap.size (int i64 3) (.string nm) (int i64 p) (int i64 u) (int i64 h)):=by rw[<-C];exact(FivB.new _ _ _ _ _ _ 72 _ rfl).below (ba _ _)
 have V1:Hid (FivB l (w.heap.size+1) (int i64 0) (int i64 0) (int i64 0) (int i64 0) (.map none)):=by rw[<-C];exact FivB.new _ _ _ _ _ _ 166 _ (by simp)
 have BK:=qQ (hB.keep Z);obtain⟨i,L,P,z,Q,U,J,H,F,G⟩:=(hB.el nm b j).ex;have k:Maps.has D (kN nm)=true:=(hB.is nm).2 ⟨b,j⟩;have HX:Hid (L<=done.length/\Maps.size P=(bZ done nm).length/\N i/\i≠bk/\i≠bm):=⟨U,J,H,F,G⟩;have a9:=qQ Q;clear U J H F G Q j;obtain⟨g,O⟩:∃ g,(kX done nm).1=g:=⟨_,rfl⟩;have M:=qQ O;rw[O] at z;clear O;have am:=BK.out.lookAt hs z k (kV (wX l none));have an:=BK.out.lookAt hs z k (kV (fG (wX l none) (.cells #[int i64 0,int i64 0,int i64 0,int i64 0,.map none] 166)));obtain⟨c0,c1,c2,c3,c4,f0,f1,f2,f3,f4,b6⟩:=V0.out;obtain⟨d0,d1,d2,d3,d4,g0,g1,g2,g3,g4,b8⟩:=V1.out;obtain⟨t0,t1,bh,bi,bc⟩:=BK.out.two;have b5:bk<w.heap.size:=HB.out.two.lt;have ak:bk<w.heap.size+1+1:=by omega
 clear hB z k;rw[M.out] at a;rw[M.out];have E:pQ g:=M.out▸(HB.out.inv.all nm).2;have ae:=HB.out.inv.len;have X:pQ o:=B▸(HB.out.inv.prt nm p).2;have I:L+1<=1048576:=by have:=HX.out.1;omega
 have ko:∀ W,Pts W i L P (fun p=>p∈prs done nm) (fun p=>(mQ done nm p).1)->Calls prog 134 #[pv b g i,int i64 p,rvq (u,h)] W (jW W b g L (bZ done nm).length (decide (p∈prs done nm)) (fun p=>p∈prs done nm) (fun p=>(mQ done nm p).1) p (oQ o (u,h)).1 er):=fun W hW=>by
  by_cases hr:0<=p/\p<=1073741824
  ·cases hth:decide (p∈prs done nm) with
   | true =>
    rw[hth] at a;exact crZ b g (u,h) o i L _ P _ _ p W hW I HX.out.2.1 hr (tD hth) B X m ht E V S er a
   | false =>
    rw[hth] at a;have T:¬ p∈prs done nm:=tL hth;exact crJ b g (u,h) o i L _ P _ _ p W hW I HX.out.2.1 hr T (by rw[<-B,ciQ T]) X m ht E V S er a
  ·have ac:3=er:=by rw[<-a,sI,jQ (by omega)]
   subst ac;refine(cvJ b g (u,h) i p W (by omega)).mono ?_;rintro x w' ⟨h1,h2⟩;exact⟨h2,.inl ⟨by decide,h1⟩⟩
 have P1:Hid (Pts (l.alloc (.cells #[int i64 b.1,int i64 b.2,int i64 g.1,int i64 g.2,.map (some i)] 166)).drew i L P (fun p=>p∈prs done nm) (fun p=>(mQ done nm p).1)):=(a9.out.keep (bal Z _)).gb (kV (wX _ none)) (by simp);have W1:Hid (FivB (l.alloc (.cells #[int i64 b.1,int i64 b.2,int i64 g.1,int i64 g.2,.map (some i)] 166)).drew (w.heap.size+1) (int i64 0) (int i64 0) (int i64 0) (int i64 0) (.map none)):=(V1.out.below (ba _ _)).gb (kV (wX _ none)) (by simp);clear a ae ht B;go_enter func83,ntmps83;go_wp2_with fail
 go_region
 all_goals
  go_wp2_with fail;refine(ko _ P1.out).mono ?_;rintro e1 w1 ⟨A,⟨af,rfl⟩|⟨rfl,b2,D2,rfl,R,aa,Y⟩⟩
  ·obtain⟨x0,x1,x2,x3,x4,y0,y1,y2,y3,y4,hx⟩:=W1.out.below A
   go_wp2_with fail;exact eQ (v:=.tuple #[zp,int i64 er]) (by simp[results,results83,go_sem,x0,x1,x2,x3,x4]) rfl ⟨eY (bt (bal Z _).drew A) (by omega) _ _ _ _ _,.inl ⟨af,rfl⟩⟩
  ·obtain⟨x0,x1,x2,x3,x4,y0,y1,y2,y3,y4,hx⟩:=W1.out.below A
   have ao:w.heap.size+1+1<b2:=by simp[ah] at R;omega
   go_wp2_with fail;exact eQ (v:=.tuple #[pv b g b2,int i64 0]) (by simp[results,results83,go_sem,x0,x1,x2,x3,x4]) rfl ⟨eY (bt (bal Z _).drew A) (by omega) _ _ _ _ _,.inr ⟨rfl,b2,L,D2,rfl,aa.gb (aX (aX (aX (aX (aX (wX _ _) _ _) _ _) _ _) _ _) _ _) (by simp;omega),HX.out.1,Y,by omega⟩⟩
theorem Pts.congr {b:Nat}{D:DataW Value}{f g:Int->Rq}(h:Pts w b n D P f)(a:∀ z,P z↔Q z)(i:∀ z,P z->f z=g z):Pts w b n D Q g :=
 ⟨h.own,fun z=>(h.is z).trans (a z),fun z hz=>by rw[h.el z ((a z).2 hz),i z ((a z).2 hz)],fun z hz=>h.rng z ((a z).2 hz)⟩
theorem vW (e:En):mZ (nrm e)=mZ e:=by unfold mZ;rw[cfJ,vE,cgQ]
theorem azZ (N:Nat->Prop)(bk bm n:Nat)(v:Value)(D:DataW Value)(done:List En)(e:En)(w:World)(hB:BookM w N bk bm n v D done)(E:e.2.1.size<=4294967296)(hN:∀ k,w.heap.size<=k->N k)(A:mZ e=0)(I:done.length<4096)(J:-9223372036854775808<=e.2.2.1/\e.2.2.1<=9223372036854775807)(er:Int)(a:zZ done (nrm e)=er) :
  Calls prog 83 #[.pointer (some ⟨bk,0,none⟩),ev e] w (ctZ w N bk bm done (nrm e) er):=by
 have i:mZ (nrm e)=0:=by rw[vW];exact A
 obtain⟨b1,b2,b3,b4⟩:=fD A;have hinv:=hB.inv;have U:=hB.own.lt;have T:=hB.two.lt;obtain⟨d,nm,p,u,g⟩:=e;simp only at E b1 b2 b3 b4 J;have hd:d=1\/d=2\/d=3:=by omega
 rcases hd with rfl|rfl|rfl
 ·rw[show nrm (1,nm,p,u,g)=(1,nm,0,u,g) from by simp[nrm]] at *
  rw[tN i I] at a;cases hbud:iX done nm with
  | some b =>
   simp only[hbud,↓reduceIte] at a;subst a;refine(cuZ N bk bm n v D done nm p u g w hB E b hbud).mono ?_;rintro x w' ⟨l,j⟩;exact⟨l,.inl ⟨by decide,j⟩⟩
  | none =>
   simp only[hbud,↓reduceIte] at a;refine(cvX N bk bm n v D done nm p u g w hB E hbud _ rfl er a).mono ?_;rintro x w' ⟨l,j|⟨j,G,H,M,R⟩⟩
   ·exact⟨l,.inl j⟩
   ·obtain⟨k1,k2⟩:=ctX hinv hbud
    have B:prs (done++[(1,nm,0,u,g)]) nm=[]:=by rw[uP (by simp)];exact k1
    have L:kX (done++[(1,nm,0,u,g)]) nm=(pX,0):=by rw[gN (by simp)];exact k2
    refine⟨l,.inr ⟨j,(u,g),G,0,_,by rw[L];exact H,?_,R.congr (fun z=>by simp[B]) (fun _ h=>h.elim),by omega,?_,hN _ (by omega),by omega,by omega⟩⟩
    ·rw[vM,hbud];simp
    ·simp[bZ,B,xD,Maps.size]
 ·rw[show nrm (2,nm,p,u,g)=(2,nm,0,u,g) from by simp[nrm]] at *
  cases hbud:iX done nm with
  | none =>
   rw[tN i I] at a;simp only[hbud] at a;rw[zQ (by decide)] at a;subst a;refine(cuJ N bk bm n v D done nm p u g w hB E hbud).mono ?_;rintro x w' ⟨l,j⟩;exact⟨l,.inl ⟨by decide,j⟩⟩
  | some b =>
   rw[csJ hinv i I rfl hbud] at a
   have C:pQ b:=by
    unfold iX at hbud;simp only[wR] at hbud;obtain⟨x,V,rfl⟩:=hbud;exact(fD (hinv.bad x (List.mem_of_find?_eq_some V)).1).2.2.2
   refine(cvZ N bk bm n v D done nm p u g w hB E b hbud _ (hinv.top nm).2 C b4 er a).mono ?_;rintro x w' ⟨l,j|⟨j,G,Y,P,H,M,R,S,Z⟩⟩
   ·exact⟨l,.inl j⟩
   ·have B:prs (done++[(2,nm,0,u,g)]) nm=prs done nm:=uP (by simp)
    have O:mQ (done++[(2,nm,0,u,g)]) nm=mQ done nm:=funext fun y=>yM (by simp)
    have L:kX (done++[(2,nm,0,u,g)]) nm=oQ (kX done nm).1 (u,g):=by
     rcases aE (e:=(2,nm,0,u,g)) hinv rfl b4 with⟨o,_⟩|⟨_,_,j3,_⟩
     ·exfalso
      rw[j] at a;unfold sN at a;simp only at o;rw[o] at a;simp at a
     ·exact j3
    refine⟨l,.inr ⟨j,b,G,Y,P,by simp only[L];exact H,?_,?_,by omega,?_,Z⟩⟩
    ·rw[vM,hbud];simp
    ·simp only[B,O];exact M
    ·simp only[bZ,B];exact S
 ·rw[show nrm (3,nm,p,u,g)=(3,nm,p,u,g) from by simp[nrm]] at *
  cases hbud:iX done nm with
  | none =>
   rw[tN i I] at a;simp only[hbud] at a;rw[zQ (by decide)] at a;subst a;refine(cvQ N bk bm n v D done nm p u g w hB E hbud).mono ?_;rintro x w' ⟨l,j⟩;exact⟨l,.inl ⟨by decide,j⟩⟩
  | some b =>
   have C:pQ b:=by
    unfold iX at hbud;simp only[wR] at hbud;obtain⟨x,V,rfl⟩:=hbud;exact(fD (hinv.bad x (List.mem_of_find?_eq_some V)).1).2.2.2
   have B:∀ z,z∈prs (done++[(3,nm,p,u,g)]) nm↔(z∈prs done nm\/z=p):=fun z=>by rw[vP,jQ ⟨rfl,rfl⟩];simp
   have O:(oQ (mQ done nm p).1 (u,g)).2=0->∀ z,(mQ (done++[(3,nm,p,u,g)]) nm z).1=if z=p then (oQ (mQ done nm p).1 (u,g)).1 else (mQ done nm z).1:=fun F z=>by
    by_cases X:z=p
    ·subst X
     have:=auX (e:=(3,nm,z,u,g)) hinv rfl;simp only at this;rw[this,jQ F];simp
    ·rw[zQ X,yM (fun c=>X c.2.2.symm)]
   obtain⟨m,hm⟩:∃ m,(oQ (mQ done nm p).1 (u,g)).2=0->Top (fun y=>(mQ (done++[(3,nm,p,u,g)]) nm y).1) (fun y=>y∈prs (done++[(3,nm,p,u,g)]) nm) m:=by
    rcases bE (e:=(3,nm,p,u,g)) hinv rfl b4 with⟨o,_⟩|⟨_,_,_,_,m,j5⟩
    ·simp only at o
     exact⟨pX,fun h=>by rw[o] at h;simp at h⟩
    ·exact⟨m,fun _=>j5⟩
   rw[ctQ hinv i I rfl hbud m hm] at a;refine(cwQ N bk bm n v D done nm p u g w hB E b hbud _ rfl m (fun F=>(hm F).congr B (fun z _=>O F z)) C b4 er a J).mono ?_;rintro x w' ⟨l,j|⟨j,G,Y,P,H,M,R,S,Z⟩⟩
   ·exact⟨l,.inl j⟩
   ·have F:(oQ (mQ done nm p).1 (u,g)).2=0:=by
     rcases rI (hinv.prt nm p).2 b4 with⟨o,_⟩|o
     ·exact o
     ·exfalso
      rw[j] at a;unfold sI at a;simp only[o] at a;split at a
      ·omega
      ·split at a
       ·omega
       ·simp at a
    have L:kX (done++[(3,nm,p,u,g)]) nm=kX done nm:=gN (by simp);refine⟨l,.inr ⟨j,b,G,Y+1,P,by simp only[L];exact H,?_,M.congr (fun z=>(B z).symm) (fun z _=>(O F z).symm),by omega,?_,hN _ (by omega),by omega,by omega⟩⟩
    ·rw[vM,hbud];simp
    ·simp only
     rw[S,rS];by_cases c:p∈prs done nm
     ·have Q:p∈bZ done nm:=(pS _ _ _).2 c
      simp[c,Q]
     ·have Q:p ∉ bZ done nm:=fun k=>c ((pS _ _ _).1 k)
      simp[c,Q]
structure Keeps (w w':World) (N:Nat->Prop):Prop where
 os:w'.os=w.os
 tape:w'.tape=w.tape
 output:w'.output=w.output
 size:w.heap.size<=w'.heap.size
 block:∀ k,k<w.heap.size->¬ N k->w'.heap[k]? = w.heap[k]?
theorem Keeps.trans {a c:World}(h:Keeps a b N)(k:Keeps b c N):Keeps a c N :=
 ⟨k.os.trans h.os,k.tape.trans h.tape,k.output.trans h.output,bQ h.size k.size,fun i hi hr=>(k.block i (lQ hi h.size) hr).trans (h.block i hi hr)⟩
theorem xX {a:World}(h:xQ a b):Keeps a b N:=⟨h.os,h.tape,h.output,h.size,fun k hk _=>h.block k hk⟩
theorem fsQ {a:World}(h:a.grownBy b r)(g:∀ k,r=some k->N k\/a.heap.size<=k):Keeps a b N:=⟨h.os,h.tape,h.output,h.size,fun k hk hn=>h.block k hk (fun e=>by rcases g k e.symm with h|h;exact hn h;omega)⟩
theorem yW {a c:World}(h:Keeps a b N)(k:b.grownBy c r)(g:∀ k,r=some k->N k\/a.heap.size<=k):Keeps a c N :=
 ⟨k.os.trans h.os,k.tape.trans h.tape,k.output.trans h.output,bQ h.size k.size,fun i hi hn=>(k.block i (lQ hi h.size) (fun e=>by rcases g i e.symm with h|h;exact hn h;omega)).trans (h.block i hi hn)⟩
def DoP (w:World) (N:Nat->Prop) (bk bm:Nat) (done:List En) (e:En):Ending->World->Prop:=fun x w' =>
 x=.returned (int i64 (zZ done (nrm e)))/\Keeps w w' N/\∃ n v D,BookM w' N bk bm n v D (xG done e)
theorem eT:(prog.info? 72).map (fun i=>(i.zero,i.size,i.bytes))=some (some (.agg #[int i64 0,.string ⟨#[]⟩,int i64 0,int i64 0,int i64 0]),5,48):=by kernel_rfl
theorem BookM.slice {D:DataW Value}{done:List En}(h:BookM w N bk bm n v D done):∃ a c,v=.slice a done.length c:=by
 rcases h.row.2 with⟨i,j⟩|⟨g,cap,cur,i,_⟩
 ·exact⟨none,0,by rw[i,j]⟩
 ·exact⟨_,_,i⟩
theorem cwX (N:Nat->Prop)(bk bm n:Nat)(v:Value)(D:DataW Value)(done:List En)(e:En)(w:World)(hB:BookM w N bk bm n v D done)(G:e.2.1.size<=9223372036854775807)(k:mZ e≠0\/4096<=done.length) :
  Calls prog 47 #[.pointer (some ⟨bk,0,none⟩),ev e] w (iQ w (int i64 (zZ done (nrm e)))):=by
 obtain⟨er,a⟩:∃ er,zZ done (nrm e)=er:=⟨_,rfl⟩;rw[a];obtain⟨j,g⟩:∃ j,mZ e=j:=⟨_,rfl⟩;have o:=fun W=>rK e (by omega) W j g;obtain⟨H,I,rfl⟩:=hB.slice;unfold zZ at a;rw[vW,g] at a;by_cases l:j=0
 ·subst l
  have m:4096<=done.length:=by rcases k with h|h;exact absurd g h;exact h
  rw[zQ (by simp),jQ m] at a;subst a;have F:decide ((4096:Int)<=(done.length:Int))=true:=sJ (by omega);have y:=qQ hB.two;clear k m g hB;obtain⟨d,nm,p,u,C⟩:=e;go_enter func47,ntmps47;go_wp2_with fail;refine(o _).mono ?_;rintro e1 E ⟨rfl,i⟩;obtain⟨t0,t1,A,B,z⟩:=(y.out.below (ba _ _)).below i;go_wp2_with fail;go_ret;exact⟨rfl,bt (ba _ _) i⟩
 ·rw[jQ l] at a
  subst a;clear k g hB;obtain⟨d,nm,p,u,C⟩:=e;go_enter func47,ntmps47;go_wp2_with fail;refine(o _).mono ?_;rintro e1 E ⟨rfl,i⟩;go_wp2_with fail;go_ret;exact⟨rfl,bt (ba _ _) i⟩
theorem cwZ (N:Nat->Prop)(bk bm n:Nat)(v:Value)(D:DataW Value)(done:List En)(e:En)(w:World)(hB:BookM w N bk bm n v D done)(G:e.2.1.size<=4294967296)(B:∀ k,w.heap.size<=k->N k)(a:mZ e=0)(C:done.length<4096)(m:-9223372036854775808<=e.2.2.1/\e.2.2.1<=9223372036854775807)(er:Int)(i:zZ done (nrm e)=er)(o:er≠0) :
  Calls prog 47 #[.pointer (some ⟨bk,0,none⟩),ev e] w (iQ w (int i64 er)):=by
 have L:=fun W=>rK e (by omega) W 0 a;have J:=fun W (hW:BookM W N bk bm n v D done) (hNW:∀ k,W.heap.size<=k->N k)=>azZ N bk bm n v D done e W hW G hNW a C m er i;have z:=qQ hB;obtain⟨Q,R,rfl⟩:=hB.slice;have P:decide ((4096:Int)<=(done.length:Int))=false:=lZ (by omega);obtain⟨d,nm,p,u,y⟩:=e;have A:Hid (FivB (w.alloc (.cells #[int i64 d,.string nm,int i64 p,int i64 u,int i64 y] 72)) w.heap.size (int i64 d) (.string nm) (int i64 p) (int i64 u) (int i64 y)):=FivB.new _ _ _ _ _ _ 72 _ rfl;clear a i hB;go_enter func47,ntmps47;go_wp2_with fail;refine(L _).mono ?_;rintro e1 S ⟨rfl,h⟩;have j:=bt (ba _ _) h;have g:=z.out.keep j;obtain⟨t0,t1,M,O,H⟩:=g.two;obtain⟨c0,c1,c2,c3,c4,f0,f1,f2,f3,f4,E⟩:=A.out.below h;go_wp2_with fail;refine(J _ g (fun k hk=>B k (bQ j.size hk))).mono ?_;rintro e2 T ⟨l,⟨_,rfl⟩|⟨I,_⟩⟩
 ·have F:(er != 0)=true:=by simpa using o
  go_wp2_with fail;go_ret;exact⟨rfl,bal (bt j l) _⟩
 ·exact absurd I o
theorem wV {b:Nat}(h:Cl w b k v)(g:Keeps w w' N)(i:¬ N b):Cl w' b k v :=
 have e:=g.block b h.lt i
 ⟨(vJ (w:=w) (a:=⟨b,k,none⟩) e).trans h.c,(nV (w:=w) (a:=⟨b,k,none⟩) e).trans h.f,lQ h.lt g.size⟩
theorem lX {a:World}(h:Keeps a b N)(g:N p.block\/a.heap.size<=p.block)(u:Value):Keeps a (b.setCell p u) N :=
 ⟨h.os,h.tape,h.output,by simp[World.setCell];exact h.size,fun k hk hn=>(fO _ _ _ _ (by rintro rfl;rcases g with c|c;exact hn c;omega)).trans (h.block k hk hn)⟩
structure DskM (w:World) (bd bw:Nat) (a:Option Addr) (c:Nat) (disk:List Int) (left:Int):Prop where
 c0:Cl w bd 0 (.slice a disk.length c)
 c1:Cl w bd 1 (int i64 left)
 c2:Cl w bd 2 (.bool false)
 ad:disk≠[]->a=some ⟨bw,0,none⟩
 ar:∀ i x,disk[i]? = some x->Cl w bw i (int i64 x)
 cp:disk.length<=c
 ne:bd≠bw
theorem DskM.kp {bd:Nat}{left:Int}(h:DskM w bd bw a c disk left)(g:Keeps w w' N)(j:¬ N bd)(k:¬ N bw):DskM w' bd bw a c disk left :=
 ⟨wV h.c0 g j,wV h.c1 g j,wV h.c2 g j,h.ad,fun i x hi=>wV (h.ar i x hi) g k,h.cp,h.ne⟩
theorem DskM.at {bd:Nat}{left:Int}(h:DskM w bd bw a c disk left)(g:xQ w w'):DskM w' bd bw a c disk left :=
 h.kp (N:=fun _=>False) (xX g) (fun h=>h) (fun h=>h)
theorem DskM.left {bd:Nat}{left:Int}(h:DskM w bd bw a c disk left)(g:Int):DskM (w.setCell ⟨bd,1,none⟩ (int i64 g)) bd bw a c disk g :=
 ⟨h.c0.oth (.inr (by decide)) _,h.c1.set _,h.c2.oth (.inr (by decide)) _,h.ad,fun i x hi=>(h.ar i x hi).oth (.inl h.ne) _,h.cp,h.ne⟩
theorem DskM.put {bd:Nat}{left:Int}(h:DskM w bd bw a c disk left)(hi:i<disk.length)(x:Int):DskM (w.setCell ⟨bw,i,none⟩ (int i64 x)) bd bw a c (disk.set i x) left:=by
 have g:Cl (w.setCell ⟨bw,i,none⟩ (int i64 x)) bd 0 (.slice a (disk.set i x).length c):=by rw[mK];exact h.c0.oth (b':=bw) (k':=i) (.inl h.ne.symm) (int i64 x)
 refine⟨g,h.c1.oth (.inl h.ne.symm) _,h.c2.oth (.inl h.ne.symm) _,fun hne=>h.ad (by rintro rfl;simp at hi),fun j y hj=>?_,by rw[mK];exact h.cp,h.ne⟩;by_cases c:i=j
 ·subst c
  rw[wD hi] at hj;cases hj;obtain⟨z,k⟩:∃ z,disk[i]? = some z:=⟨_,nZ hi⟩;exact(h.ar i z k).set _
 ·rw[sF c] at hj
  exact(h.ar j y hj).oth (.inr c) _
theorem czQ (bd bw:Nat)(a:Option Addr)(c:Nat)(disk:List Int)(left:Int)(w:World)(h:DskM w bd bw a c disk left) :
  Calls prog 297 #[.pointer (some ⟨bd,0,none⟩)] w fun e w'=>e=.returned (int i64 disk.length)/\w' = w:=by
 have g:=h.c0.c;go_enter func297,ntmps297;go_wp2;go_ret;exact⟨rfl,rfl⟩
theorem czX (bd bw:Nat)(a:Option Addr)(c:Nat)(disk:List Int)(left:Int)(i:Nat)(x:Int)(w:World)(h:DskM w bd bw a c disk left)(g:disk[i]? = some x) :
  Calls prog 295 #[.pointer (some ⟨bd,0,none⟩),int i64 i] w fun e w'=>e=.returned (int i64 x)/\w' = w:=by
 have j:=h.c0.c;have hi:i<disk.length:=(fQ.1 g).1;have hc:=h.cp;have ha:=h.ad (by rintro rfl;simp at hi);subst ha;have k:=(h.ar i x g).c;have l:¬ ((i:Int)<0):=by omega
 have m:¬ ((disk.length:Int)<=(i:Int)):=by omega
 clear h;go_enter func295,ntmps295;go_wp2;go_ret;exact⟨rfl,rfl⟩
def czZ (bd bw:Nat) (a:Option Addr) (c:Nat) (d':List Int) (l':Int) (ok:Bool) (w:World):Ending->World->Prop:=fun e w' =>
 e=.returned (.bool ok)/\DskM w' bd bw a c d' l'/\Keeps w w' (fun k=>k=bd\/k=bw)/\w'.heap.size=w.heap.size
theorem czJ (bd bw:Nat)(a:Option Addr)(c:Nat)(disk:List Int)(left:Int)(i:Nat)(x:Int)(w:World)(h:DskM w bd bw a c disk left)(hi:i<disk.length)(o:-9223372036854775808<=left/\left<=9223372036854775807)(k:List Int)(l:Int)(ok:Bool)(g:nX disk left [(i,x)]=(k,l,ok)) :
  Calls prog 296 #[.pointer (some ⟨bd,0,none⟩),int i64 i,int i64 x] w (czZ bd bw a c k l ok w):=by
 have H:=qQ h;have p:=h.c0.c;have hc:=h.cp;have ha:=h.ad (by rintro rfl;simp at hi);subst ha;obtain⟨y,j⟩:∃ y,disk[i]? = some y:=⟨_,nZ hi⟩;have v:=(h.ar i y j).c;have A:=(h.ar i y j).f;have z:=h.c1.c;have B:=h.c1.f;have m:=h.ne;have C:¬ ((i:Int)<0):=by omega
 have D:¬ ((disk.length:Int)<=(i:Int)):=by omega
 clear h j;by_cases c0:left=0
 ·subst c0
  simp only[nX,uA,cQ] at g;obtain⟨rfl,rfl,rfl⟩:=g;go_enter func296,ntmps296;go_wp2;go_ret;exact⟨rfl,H.out,xX (uQ _ _),rfl⟩
 ·simp only[nX,zQ c0,cQ] at g
  obtain⟨rfl,rfl,rfl⟩:=g;have E:(left == 0)=false:=by simpa using c0
  by_cases c1:0<left
  ·rw[jQ c1]
   have F:IntKind.i64.wrap (left - 1)=left - 1:=by rw[lJ];omega
   go_enter func296,ntmps296;go_wp2;go_ret;exact⟨rfl,(H.out.left _).put hi _,lX (lX (xX (uQ _ _)) (.inl (.inl rfl)) _) (.inl (.inr rfl)) _,by simp[World.setCell]⟩
  ·rw[zQ c1]
   go_enter func296,ntmps296;go_wp2;go_ret;exact⟨rfl,H.out.put hi _,lX (xX (uQ _ _)) (.inl (.inr rfl)) _,by simp[World.setCell]⟩
end K.P
namespace K.P
open K.Ds
theorem a1J (x:Int):(BitVec.ofInt 64 x).toNat=vG x:=by
 rw[BitVec.toNat_ofInt];rfl
theorem a2Q (h:n<18446744073709551616):IntKind.i64.wrap (n:Int)=tU n:=by
 rw[lJ];unfold tU;split <;> omega
theorem c0Q (a b k n:Nat)(p:n=2 ^ (k+8)*a)(m:b<256)(h:n<18446744073709551616)(o:k<=56) :
  bits .or .i64 (tU n) (IntKind.i64.wrap ((b:Int)*2 ^ k))=tU (n+b*2 ^ k):=by
 have j:2 ^ k<=2 ^ 56:=Nat.pow_le_pow_right (by decide) o
 have l:b*2 ^ k<18446744073709551616:=by
  have:=Nat.mul_le_mul (show b<=255 by omega) j;omega
 have e1:((b:Int)*2 ^ k)=((b*2 ^ k:Nat):Int):=by simp
 have g:b*2 ^ k<2 ^ (k+8):=by
  rw[Nat.pow_add,Nat.mul_comm];exact Nat.mul_lt_mul_of_pos_left m (Nat.two_pow_pos k)
 have i:n ||| (b*2 ^ k)=n+b*2 ^ k:=by
  rw[p,Nat.two_pow_add_eq_or_of_lt g]
 have v:n+b*2 ^ k<18446744073709551616:=by
  rw[<-i];exact Nat.or_lt_two_pow (n:=64) h l
 rw[e1,a2Q l];unfold bits;simp only
 show IntKind.i64.wrap (((BitVec.ofInt 64 (tU n)) ||| (BitVec.ofInt 64 (tU (b*2 ^ k)))).toNat:Int)=_
 rw[BitVec.toNat_or,a1J,a1J,ayQ h,ayQ l,i,a2Q v]
theorem bW (s:List Nat)(i j:Nat):(s.take i).getD j 0=if j<i then s.getD j 0 else 0:=by
 simp only[List.getD,vN];split <;> rfl
theorem a2X (s:List Nat)(q r:Nat):octs (s.take (8*q+r)) q=(List.range 8).map fun t=>if t<r then s.getD (8*q+t) 0 else 0:=by
 unfold octs;refine amJ fun t _=>?_;rw[bW];by_cases c:t<r
 ·rw[jQ c,jQ (by omega)]
 ·rw[zQ c,zQ (by omega)]
theorem r8:List.range 8=[0,1,2,3,4,5,6,7]:=rfl
theorem c0X (f:Nat->Nat)(r:Nat)(a:r<8):zY ((List.range 8).map fun t=>if t<r then f t else 0)=2 ^ (8*(7 - r)+8)*zY ((List.range r).map f) /\
  zY ((List.range 8).map fun t=>if t<r+1 then f t else 0)=zY ((List.range 8).map fun t=>if t<r then f t else 0)+f r*2 ^ (8*(7 - r)):=by
 rw[r8]
 match r,a with
 | 0,_ | 1,_ | 2,_ | 3,_ | 4,_ | 5,_ | 6,_ | 7,_=>constructor <;> simp[zY,List.range_succ] <;> omega
theorem c0Z (s:List Nat)(q r:Nat)(g:r<8):(∃ a,zY (octs (s.take (8*q+r)) q)=2 ^ (8*(7 - r)+8)*a)/\zY (octs (s.take (8*q+r+1)) q)=zY (octs (s.take (8*q+r)) q)+s.getD (8*q+r) 0*2 ^ (8*(7 - r)):=by
 have h:=c0X (fun t=>s.getD (8*q+t) 0) r g;rw[show 8*q+r+1=8*q+(r+1) from rfl,a2X,a2X];exact⟨⟨_,h.1⟩,h.2⟩
theorem c0J (s:List Nat)(q i:Nat)(h:i / 8≠q):octs (s.take (i+1)) q=octs (s.take i) q:=by
 unfold octs;refine amJ fun t ht=>?_;have a:t<8:=by simpa using ht
 rw[bW,bW];by_cases c:8*q+t<i
 ·rw[jQ c,jQ (by omega)]
 ·rw[zQ c,zQ (by omega)]
theorem qO (s:List Nat)(q:Nat)(a:q<4):(zJ s)[q]? = some (tU (zY (octs s q))):=by
 simp[zJ,a]
theorem c1Q (s:List Nat)(h:∀ b∈s,b<256)(q:Nat):zY (octs s q)<18446744073709551616:=by
 have g:(octs s q).length=8:=by simp[octs]
 have a:=uT (aT h q);rw[g] at a;simpa using a
theorem c1X (s:List Nat)(l:∀ b∈s,b<256)(i:Nat)(hi:i<32):zJ (s.take (i+1))=(zJ (s.take i)).set (i / 8) (bits .or .i64 ((zJ (s.take i)).getD (i / 8) 0) (IntKind.i64.wrap ((s.getD i 0:Nat)*2 ^ (8*(7 - i % 8))))):=by
 have e:i=8*(i / 8)+i % 8:=by omega
 obtain⟨⟨a,h⟩,k⟩:=c0Z s (i / 8) (i % 8) (by omega);rw[<-e] at h k
 have g:s.getD i 0<256:=by
  rw[List.getD];cases c:s[i]? with
  | none=>simp
  | some x=>simpa using l x (qX c)
 have v:i / 8<4:=by omega
 have o:=c1Q (s.take i) (fun b g=>l b (pG g)) (i / 8);have m:(zJ (s.take i)).getD (i / 8) 0=tU (zY (octs (s.take i) (i / 8))):=by rw[List.getD,qO _ _ v];rfl
 rw[m];have p:=c0Q a (s.getD i 0) (8*(7 - i % 8)) _ h g o (by omega);rw[p,<-k];apply lO;intro j;by_cases c:j<4
 ·by_cases c2:i / 8=j
  ·subst c2
   rw[qO _ _ c,wD (by rw[uF];exact c)]
  ·rw[sF c2,qO _ _ c,qO _ _ c,c0J s j i c2]
 ·rw[pL (by rw[uF];omega),pL (by rw[mK,uF];omega)]
theorem c1Z:zJ []=[0,0,0,0]:=by decide
theorem c1J (x:Int)(r:Nat)(a:r<8):IntKind.u8.wrap (x / 2 ^ (8*(7 - r)))=((rZ 8 (vG x)).getD r 0:Nat):=by
 have g:IntKind.u8.wrap (x / 2 ^ (8*(7 - r)))=(x / 2 ^ (8*(7 - r))) % 256:=by simp[IntKind.wrap,IntKind.bits,IntKind.signed]
 rw[g];unfold vG;have e:rZ 8 (x % 18446744073709551616).toNat=[(x % 18446744073709551616).toNat / 256 / 256 / 256 / 256 / 256 / 256 / 256 % 256,(x % 18446744073709551616).toNat / 256 / 256 / 256 / 256 / 256 / 256 % 256,(x % 18446744073709551616).toNat / 256 / 256 / 256 / 256 / 256 % 256,(x % 18446744073709551616).toNat / 256 / 256 / 256 / 256 % 256,(x % 18446744073709551616).toNat / 256 / 256 / 256 % 256,(x % 18446744073709551616).toNat / 256 / 256 % 256,(x % 18446744073709551616).toNat / 256 % 256,(x % 18446744073709551616).toNat % 256]:=rfl;rw[e]
 match r,a with
 | 0,_ | 1,_ | 2,_ | 3,_ | 4,_ | 5,_ | 6,_ | 7,_=>simp;omega
