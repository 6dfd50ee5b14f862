import Derived.Test.YtcaplmodgbpchaaGreatDoorQq26
import Derived.Deep.RegionWith
open Go.Proofs.Tryz
open Go.Value(int)
open Go.IntKind(i64)
set_option linter.unusedSimpArgs false
set_option maxHeartbeats 16000000
set_option maxRecDepth 100000
namespace Go.Proofs.YtcaplmodgbpchaaGreatDoor
variable {R b n:Nat} {l s:List Nat} {disk disk':List Int} {left' z:Int} {ws:List (Nat × Int)} {ok:Bool} {w w' w1:World} {a c d e:Value} {r:Option Nat} {P:Int->Prop}
namespace K.P
open K.Ds
def tU (n:Nat):Int:=if n<9223372036854775808 then (n:Int) else (n:Int) - 18446744073709551616
def vG (x:Int):Nat:=(x % 18446744073709551616).toNat
theorem ayQ (h:n<18446744073709551616):vG (tU n)=n:=by
 unfold vG tU;split <;> omega
theorem cqX {α:Type}{P:List α->Prop}(g:P [])(h:∀ l b,P l->P (l++[b]))(l:List α):P l:=by
 rw[<-List.reverse_reverse l]
 induction l.reverse with
 | nil=>exact g
 | cons a r ih=>rw[List.reverse_cons];exact h _ _ ih
def zY (l:List Nat):Nat:=l.foldl (fun n b=>n*256+b) 0
theorem ayX (l:List Nat)(b:Nat):zY (l++[b])=zY l*256+b:=by simp[zY]
theorem uT :(∀ b∈l,b<256)->zY l<256 ^ l.length:=by
 refine cqX (P:=fun l=>(∀ b∈l,b<256)->zY l<256 ^ l.length) (fun _=>by simp[zY]) (fun l b ih h=>?_) l;have a:=ih fun x hx=>h x (by simp[hx]);have g:=h b (by simp);rw[ayX,sY,oK,rO];omega
def rZ:Nat->Nat->List Nat
 | 0,_=>[]
 | k+1,n=>rZ k (n / 256)++[n % 256]
theorem oN (k n:Nat):(rZ k n).length=k:=by
 induction k generalizing n with
 | zero=>rfl
 | succ k ih=>simp[rZ,ih]
theorem ayZ (k n:Nat):∀ b∈rZ k n,b<256:=by
 induction k generalizing n with
 | zero=>simp[rZ]
 | succ k ih =>
  intro b a;simp only[rZ,aV,uN] at a;rcases a with a|rfl
  ·exact ih _ b a
  ·omega
def octs (s:List Nat) (w:Nat):List Nat:=(List.range 8).map fun i=>s.getD (8*w+i) 0
def zJ (s:List Nat):List Int:=(List.range 4).map fun w=>tU (zY (octs s w))
def dY (l:List Int):List Nat:=l.flatMap fun x=>(rZ 8 (vG x)).filter (·≠0)
theorem uF (s:List Nat):(zJ s).length=4:=by simp[zJ]
theorem aT (h:∀ b∈s,b<256)(w:Nat):∀ b∈octs s w,b<256:=by
 intro b a;obtain⟨i,_,rfl⟩:=iJ.1 a;rw[List.getD];cases e:s[8*w+i]? with
 | none=>simp
 | some x=>simpa using h x (qX e)
def nU (n:ByteArray):List Nat:=n.data.toList.map UInt8.toNat
def jY (l:List Nat):ByteArray:=⟨(l.map UInt8.ofNat).toArray⟩
theorem bT (n:ByteArray):∀ b∈nU n,b<256:=by
 intro b a;obtain⟨x,_,rfl⟩:=iJ.1 a;exact UInt8.toNat_lt x
def oJ (e:En):List Int:=[1,e.1,e.2.2.1,e.2.2.2.1,e.2.2.2.2]++zJ (nU e.2.1)
def tY (r:List Int):En:=(r.getD 1 0,jY (dY (r.drop 5)),r.getD 2 0,r.getD 3 0,r.getD 4 0)
theorem pN (e:En):(oJ e).length=9:=by simp[oJ,uF]
def rcd (disk:List Int) (i:Nat):List Int:=(disk.drop (9*i)).take 9
def wU (disk:List Int) (done:List En) (i:Nat):Prop:=9*i+9<=disk.length/\(rcd disk i).getD 0 0=1/\oJ (tY (rcd disk i))=rcd disk i/\zZ done (nrm (tY (rcd disk i)))=0
inductive Rds (disk:List Int):Nat->List En->Prop
 | nil:Rds disk 0 []
 | more {n:Nat} {done:List En}:Rds disk n done->wU disk done n->Rds disk (n+1) (done++[nrm (tY (rcd disk n))])
def rN (disk:List Int) (done:List En):Prop:=Rds disk done.length done/\¬ wU disk done done.length
theorem Rds.uniq {a b:List En}(h:Rds disk n a)(k:Rds disk n b):a=b:=by
 induction h generalizing b with
 | nil=>cases k;rfl
 | more h1 _ ih =>
  cases k with
  | more k1 _=>rw[ih k1]
theorem Rds.pre {a:List En}(h:Rds disk n a):∀ {m:Nat},m<n->∃ b,Rds disk m b/\wU disk b m:=by
 induction h with
 | nil=>intro m g;omega
 | @more n done h1 h2 ih =>
  intro m g;rcases Nat.lt_or_ge m n with c|c
  ·exact ih c
  ·obtain rfl:m=n:=by omega
   exact⟨done,h1,h2⟩
theorem rN.uniq {a b:List En}(h:rN disk a)(k:rN disk b):a=b:=by
 rcases Nat.lt_trichotomy a.length b.length with c|c|c
 ·obtain⟨x,g,hc⟩:=k.1.pre c
  rw[<-h.1.uniq g] at hc;exact absurd hc h.2
 ·exact h.1.uniq (c▸k.1)
 ·obtain⟨x,g,hc⟩:=h.1.pre c
  rw[<-k.1.uniq g] at hc;exact absurd hc k.2
def nX:List Int->Int->List (Nat × Int)->List Int × Int × Bool
 | disk,left,[]=>(disk,left,true)
 | disk,left,(a,x)::r=>if left=0 then (disk,0,false) else nX (disk.set a x) (if 0<left then left - 1 else left) r
def jL (disk:List Int) (ws:List (Nat × Int)):List Int:=ws.foldl (fun d p=>d.set p.1 p.2) disk
theorem cqZ (disk:List Int)(ws:List (Nat × Int)):(jL disk ws).length=disk.length:=by
 induction ws generalizing disk with
 | nil=>rfl
 | cons p ws ih=>unfold jL at *;rw[List.foldl_cons,ih];simp
theorem ayJ {left:Int}(h:nX disk left ws=(disk',left',ok)) :
  ∃ m,m<=ws.length/\disk' = jL disk (ws.take m)/\(ok=true->m=ws.length)/\(ok=false->m<ws.length):=by
 induction ws generalizing disk left with
 | nil =>
  simp only[nX,cQ] at h;exact⟨0,vQ _,by simp[jL,h.1],fun _=>rfl,fun e=>by rw[<-h.2.2] at e;cases e⟩
 | cons p ws ih =>
  obtain⟨a,x⟩:=p;simp only[nX] at h;by_cases c:left=0
  ·rw[jQ c] at h
   simp only[cQ] at h;exact⟨0,dQ _,by simp[jL,h.1],(fun e=>by rw[<-h.2.2] at e;cases e),fun _=>by simp⟩
  ·rw[zQ c] at h
   obtain⟨m,g,i,j,k⟩:=ih h;refine⟨m+1,by simpa using g,by rw[i];simp[jL],fun e=>by rw[j e];rfl,fun e=>?_⟩;have:=k e;simp;omega
def wrs (n:Nat) (e:En):List (Nat × Int):=(9*n,0)::((List.range 8).map (fun j=>(9*n+(j+1),(oJ e).getD (j+1) 0))++[(9*n,1)])
theorem cqJ {e:En}:∀ p∈wrs n e,9*n<=p.1/\p.1<9*n+9:=by
 intro p a;simp only[wrs,kJ,aV,iJ,lK,cI,dI] at a;rcases a with rfl|⟨j,g,rfl⟩|rfl
 ·simp
 ·simp;omega
 ·simp
instance (disk:List Int) (done:List En) (i:Nat):Decidable (wU disk done i):=by unfold wU;infer_instance
def cT (disk:List Int):Nat->List En->List En
 | 0,done=>done
 | f+1,done=>if wU disk done done.length then cT disk f (done++[nrm (tY (rcd disk done.length))]) else done
def wY (disk:List Int):List En:=cT disk (disk.length / 9) []
theorem azQ (disk:List Int):∀ (f:Nat) (done:List En),Rds disk done.length done->disk.length<9*(done.length+f)+9->rN disk (cT disk f done)
 | 0,done,h,hl=>⟨h,fun hc=>by have a:9*done.length+9<=disk.length:=hc.1;omega⟩
 | f+1,done,h,hl=>by
  unfold cT;by_cases c:wU disk done done.length
  ·rw[jQ c]
   refine azQ disk f _ ?_ ?_
   ·rw[sY,oK];exact .more h c
   ·rw[sY,oK];omega
  ·rw[zQ c];exact⟨h,c⟩
theorem crQ (disk:List Int):rN disk (wY disk):=azQ disk _ [] .nil (by simp;omega)
theorem xW {done:List En}(h:rN disk done):wY disk=done:=(crQ disk).uniq h
structure HSt where
 disk:List Int
 left:Int
 up:Bool
 brk:Bool
 done:List En
def jZ (s:HSt) (e:En):HSt × Int :=
 if s.disk.length<9*s.done.length+9 then (s,4)
 else if zZ s.done (nrm e)≠0 then (s,zZ s.done (nrm e))
 else if (nX s.disk s.left (wrs s.done.length (nrm e))).2.2=true
  then ({ s with disk:=(nX s.disk s.left (wrs s.done.length (nrm e))).1,left:=(nX s.disk s.left (wrs s.done.length (nrm e))).2.1,done:=s.done++[nrm e] },0)
  else ({ s with disk:=(nX s.disk s.left (wrs s.done.length (nrm e))).1,left:=(nX s.disk s.left (wrs s.done.length (nrm e))).2.1,brk:=true },11)
inductive Ev (α:Type) where
 | opn | pow (n:Int) | oth | pur (e:En) | ask (pre:Int) (e:En) (tl:Option α) | loo
structure Sn (α:Type) where
 err:Int
 told:Option α
 ents:List En
def gZ {α:Type} (wr:Int) (s:HSt):Ev α->HSt × Sn α
 | .opn=>({ s with up:=decide (wr=0),brk:=false,done:=wY s.disk },⟨wr,none,[]⟩)
 | .pow n=>({ s with left:=n },⟨0,none,[]⟩)
 | .oth=>(s,⟨0,none,[]⟩)
 | .pur e=>if s.up=false then (s,⟨0,none,[]⟩) else if s.brk=true then (s,⟨9,none,[]⟩) else ((jZ s e).1,⟨(jZ s e).2,none,[]⟩)
 | .ask pre e tl=>if s.up=false then (s,⟨0,none,[]⟩) else if s.brk=true then (s,⟨9,none,[]⟩) else if pre≠0 then (s,⟨pre,none,[]⟩)
   else if (jZ s e).2≠0 then ((jZ s e).1,⟨(jZ s e).2,none,[]⟩)
   else match tl with
    | none=>((jZ s e).1,⟨6,none,[]⟩)
    | some t=>((jZ s e).1,⟨0,some t,[]⟩)
 | .loo=>if s.up=false then (s,⟨0,none,[]⟩) else if s.brk=true then (s,⟨9,none,[]⟩) else (s,⟨0,none,s.done⟩)
end K.P
namespace K.P
open Go.RowKit K.Ds
abbrev zp:Value:=.agg #[int i64 0,int i64 0,int i64 0,int i64 0,.map none]
def jH (bud al m:Rq):Int:=if (oQ al m).2=0 then (if sX (oQ al m).1 bud then 0 else 10) else (oQ al m).2
structure FivB (w:World) (R:Nat) (a b c d e:Value):Prop where
 c0:w.cell? ⟨R,0,none⟩=some a
 c1:w.cell? ⟨R,1,none⟩=some b
 c2:w.cell? ⟨R,2,none⟩=some c
 c3:w.cell? ⟨R,3,none⟩=some d
 c4:w.cell? ⟨R,4,none⟩=some e
 f0:w.frozen? ⟨R,0,none⟩=false
 f1:w.frozen? ⟨R,1,none⟩=false
 f2:w.frozen? ⟨R,2,none⟩=false
 f3:w.frozen? ⟨R,3,none⟩=false
 f4:w.frozen? ⟨R,4,none⟩=false
 lt:R<w.heap.size
theorem FivB.gb {b:Value}(h:FivB w R a b c d e)(j:w.grownBy w' r)(i:some R≠r):FivB w' R a b c d e:=by
 have k:w'.heap[R]? = w.heap[R]?:=j.block R h.lt i;have hc:=fun o=>vJ (w:=w) (w':=w') (a:=⟨R,o,none⟩) k;have g:=fun o=>nV (w:=w) (w':=w') (a:=⟨R,o,none⟩) k;exact⟨(hc 0).trans h.c0,(hc 1).trans h.c1,(hc 2).trans h.c2,(hc 3).trans h.c3,(hc 4).trans h.c4,(g 0).trans h.f0,(g 1).trans h.f1,(g 2).trans h.f2,(g 3).trans h.f3,(g 4).trans h.f4,lQ h.lt j.size⟩
theorem FivB.below {b:Value}(h:FivB w R a b c d e)(g:xQ w w'):FivB w' R a b c d e:=h.gb (cZ g) (by simp)
theorem FivB.new (w:World)(a b c d e:Value)(t:TypeId)(N:Nat)(g:N=w.heap.size):FivB (w.alloc (.cells #[a,b,c,d,e] t)) N a b c d e :=
 ⟨nc _ _ 0 _ g rfl,nc _ _ 1 _ g rfl,nc _ _ 2 _ g rfl,nc _ _ 3 _ g rfl,nc _ _ 4 _ g rfl,nf _ _ 0 g,nf _ _ 1 g,nf _ _ 2 g,nf _ _ 3 g,nf _ _ 4 g,by simp;omega⟩
theorem eY (h:xQ w w1)(hR:w.heap.size<=R)(a b c d e:Value):xQ w (((((w1.setCell ⟨R,0,none⟩ a).setCell ⟨R,1,none⟩ b).setCell ⟨R,2,none⟩ c).setCell ⟨R,3,none⟩ d).setCell ⟨R,4,none⟩ e) :=
 bs (bs (bs (bs (bs h hR _) hR _) hR _) hR _) hR _
theorem zW (a g:Rq)(j n:Nat)(D:DataW Value)(P:Int->Prop)(f:Int->Rq)(w:World)(T:Pts w j n D P f)(X:n<=1048576)(m:Rq)(L:Top f P m)(ha:pQ g)(C:pQ a)(er:Int)(k:jH a g m=er) :
  Calls prog 176 #[pv a g j] w fun x w'=>x=.returned (.tuple #[if er=0 then pv a g j else zp,int i64 er])/\xQ w w':=by
 obtain⟨⟨r,e⟩,E⟩:∃ y,oQ g m=y:=⟨_,rfl⟩;have Y:=fun W (hW:Pts W j n D P f)=>cpQ a g j n D P f W hW X m L r e E;have U:=qQ T
 have o:(e=4/\er=4)\/(e=0/\pQ r/\((sX r a/\er=0)\/(¬ sX r a/\er=10))):=by
  unfold jH at k;rw[E] at k;rcases rI ha L.ok with⟨l,I,_⟩|l
  ·rw[E] at l I
   simp only at l I;right;refine⟨l,I,?_⟩;rw[jQ l] at k;by_cases c:sX r a
   ·left;rw[jQ c] at k;exact⟨c,k.symm⟩
   ·right;rw[zQ c] at k;exact⟨c,k.symm⟩
  ·rw[E] at l
   simp only[cQ] at l;obtain⟨_,rfl⟩:=l;left;simpa using k.symm
 clear T L k E;have V:Hid (Pts ((w.alloc (.cells #[int i64 a.1,int i64 a.2,int i64 g.1,int i64 g.2,.map (some j)] 166)).alloc (.cells #[int i64 0,int i64 0,int i64 0,int i64 0,.map none] 166)) j n D P f):=U.out.keep (bal (ba _ _) _);have N:Hid (FivB ((w.alloc (.cells #[int i64 a.1,int i64 a.2,int i64 g.1,int i64 g.2,.map (some j)] 166)).alloc (.cells #[int i64 0,int i64 0,int i64 0,int i64 0,.map none] 166)) w.heap.size (int i64 a.1) (int i64 a.2) (int i64 g.1) (int i64 g.2) (.map (some j))):=(FivB.new _ _ _ _ _ _ 166 _ rfl).below (ba _ _);have H:Hid (FivB ((w.alloc (.cells #[int i64 a.1,int i64 a.2,int i64 g.1,int i64 g.2,.map (some j)] 166)).alloc (.cells #[int i64 0,int i64 0,int i64 0,int i64 0,.map none] 166)) (w.heap.size+1) (int i64 0) (int i64 0) (int i64 0) (int i64 0) (.map none)):=FivB.new _ _ _ _ _ _ 166 _ (by simp);go_enter func176,ntmps176;go_wp2_with fail;refine(Y _ V.out).mono ?_;rintro e1 w1 ⟨rfl,h⟩;have G:=bt (bal (ba _ _) _) h;obtain⟨c0,c1,c2,c3,c4,f0,f1,f2,f3,f4,J⟩:=N.out.below h;obtain⟨d0,d1,d2,A,B,O,Q,g2,R,S,p⟩:=H.out.below h;rcases o with⟨rfl,rfl⟩|⟨rfl,F,⟨z,rfl⟩|⟨z,rfl⟩⟩
 ·go_wp2_with fail
  exact eQ (v:=.tuple #[zp,int i64 4]) (by simp[results,results176,go_sem,d0,d1,d2,A,B,p]) rfl ⟨by simp,bal (eY G (by omega) _ _ _ _ _) _⟩
 ·have M:=yT r a F C false (by simpa using z)
  go_wp2_with fail;refine(M _).mono ?_;rintro e2 Z ⟨rfl,i⟩;obtain⟨c0,c1,c2,c3,c4,f0,f1,f2,f3,f4,J⟩:=((N.out.below h).below (ba _ _)).below i;obtain⟨d0,d1,d2,A,B,O,Q,g2,R,S,p⟩:=((H.out.below h).below (ba _ _)).below i;go_wp2_with fail;exact eQ (v:=.tuple #[pv a g j,int i64 0]) (by simp[results,results176,go_sem,d0,d1,d2,A,B]) rfl ⟨by simp,eY (bt (bal G _) i) (by omega) _ _ _ _ _⟩
 ·have M:=yT r a F C true (by simpa using z)
  go_wp2_with fail;refine(M _).mono ?_;rintro e2 Z ⟨rfl,i⟩;obtain⟨d0,d1,d2,A,B,O,Q,g2,R,S,p⟩:=((H.out.below h).below (ba _ _)).below i;go_wp2_with fail;exact eQ (v:=.tuple #[zp,int i64 10]) (by simp[results,results176,go_sem,d0,d1,d2,A,B]) rfl ⟨by simp,eY (bt (bal G _) i) (by omega) _ _ _ _ _⟩
def sN (bud al ls m:Rq):Int:=if (oQ al ls).2=0 then jH bud (oQ al ls).1 m else (oQ al ls).2
theorem crX (bud al ls:Rq)(bm n:Nat)(D:DataW Value)(P:Int->Prop)(f:Int->Rq)(w:World)(hp:Pts w bm n D P f)(hn:n<=1048576)(m:Rq)(ht:Top f P m)(ha:pQ al)(hbu:pQ bud)(hls:pQ ls)(er:Int)(hr:sN bud al ls m=er) :
  Calls prog 133 #[pv bud al bm,rvq ls] w fun x w'=>x=.returned (.tuple #[if er=0 then pv bud (oQ al ls).1 bm else zp,.int .i64 er])/\xQ w w':=by
 obtain⟨⟨q,e⟩,hm⟩:∃ y,oQ al ls=y:=⟨_,rfl⟩;have kt:=times_any al.1 al.2 ls.1 ls.2 q.1 q.2 e (by rw[eN,hm]);have HP:=qQ hp
 have hcase:(e=4/\er=4)\/(e=0/\pQ q/\jH bud q m=er):=by
  unfold sN at hr;rw[hm] at hr;rcases rI ha hls with⟨h1,h2,_⟩|h1
  ·rw[hm] at h1 h2
   simp only at h1 h2 hr;rw[jQ h1] at hr;exact .inr ⟨h1,h2,hr⟩
  ·rw[hm] at h1
   simp only[cQ] at h1;obtain⟨_,rfl⟩:=h1;left;simpa using hr.symm
 rw[hm];clear hp hr hm;have V2:Hid (FivB (((w.alloc (.cells #[.int .i64 bud.1,.int .i64 bud.2,.int .i64 al.1,.int .i64 al.2,.map (some bm)] 166)).alloc (.cells #[.int .i64 ls.1,.int .i64 ls.2] 37)).alloc (.cells #[.int .i64 0,.int .i64 0,.int .i64 0,.int .i64 0,.map none] 166)) (w.heap.size+1+1) (.int .i64 0) (.int .i64 0) (.int .i64 0) (.int .i64 0) (.map none)):=FivB.new _ _ _ _ _ _ 166 _ (by simp);have V0:Hid (FivB (((w.alloc (.cells #[.int .i64 bud.1,.int .i64 bud.2,.int .i64 al.1,.int .i64 al.2,.map (some bm)] 166)).alloc (.cells #[.int .i64 ls.1,.int .i64 ls.2] 37)).alloc (.cells #[.int .i64 0,.int .i64 0,.int .i64 0,.int .i64 0,.map none] 166)) w.heap.size (.int .i64 bud.1) (.int .i64 bud.2) (.int .i64 al.1) (.int .i64 al.2) (.map (some bm))):=((FivB.new _ _ _ _ _ _ 166 _ rfl).below (ba _ _)).below (ba _ _);go_enter func133,ntmps133;go_wp2_with fail;refine(kt _).mono ?_;rintro e1 w1 ⟨rfl,hb1⟩;have Bw:=bt (bal (bal (ba _ _) _) _) hb1;obtain⟨c0,c1,c2,c3,c4,f0,f1,f2,f3,f4,hl0⟩:=V0.out.below hb1;obtain⟨d0,d1,d2,d3,d4,g0,g1,g2,g3,g4,hl1⟩:=V2.out.below hb1;rcases hcase with⟨rfl,rfl⟩|⟨rfl,hok,hck⟩
 ·go_wp2_with fail
  exact eQ (v:=.tuple #[zp,.int .i64 4]) (by simp[results,results133,go_sem,d0,d1,d2,d3,d4,hl1]) rfl ⟨by simp,bal (eY Bw (by omega) _ _ _ _ _) _⟩
 ·have kc:=fun W (hW:Pts W bm n D P f)=>zW bud q bm n D P f W hW hn m ht hok hbu er hck
  clear hck;have hbm:=HP.out.own.lt;have P1:=qQ (HP.out.keep Bw);have hg:w1.grownBy (((w1.setCell ⟨w.heap.size,2,none⟩ (.int .i64 q.1)).setCell ⟨w.heap.size,3,none⟩ (.int .i64 q.2)).alloc (.cells #[.int .i64 q.1,.int .i64 q.2] 37)) (some w.heap.size):=fG (aX (aX (wX _ _) _ _) _ _) _;have HX:=qQ ((V2.out.below hb1).gb hg (by simp;omega));have P2:=qQ (P1.out.gb hg (by simp;omega));have BX:xQ w (((w1.setCell ⟨w.heap.size,2,none⟩ (.int .i64 q.1)).setCell ⟨w.heap.size,3,none⟩ (.int .i64 q.2)).alloc (.cells #[.int .i64 q.1,.int .i64 q.2] 37)):=bal (bs (bs Bw (vQ _) _) (vQ _) _) _;clear hg;by_cases her:er=0
  ·subst her
   simp only[↓reduceIte] at kc;go_wp2_with fail;refine(kc _ P2.out).mono ?_;rintro e2 w2 ⟨rfl,hb2⟩;obtain⟨x0,x1,x2,x3,x4,y0,y1,y2,y3,y4,hx⟩:=HX.out.below hb2;go_wp2_with fail;exact eQ (v:=.tuple #[pv bud q bm,.int .i64 0]) (by simp[results,results133,go_sem,x0,x1,x2,x3,x4]) rfl ⟨by simp,eY (bt BX hb2) (by omega) _ _ _ _ _⟩
  ·simp only[her,↓reduceIte] at kc
   go_wp2_with fail;refine(kc _ P2.out).mono ?_;rintro e2 w2 ⟨rfl,hb2⟩;obtain⟨x0,x1,x2,x3,x4,y0,y1,y2,y3,y4,hx⟩:=HX.out.below hb2;go_wp2_with fail;exact eQ (v:=.tuple #[zp,.int .i64 er]) (by simp[results,results133,go_sem,x0,x1,x2,x3,x4]) rfl ⟨by simp,eY (bt BX hb2) (by omega) _ _ _ _ _⟩
theorem Pts.put {D:DataW Value}{f:Int->Rq}(h:Pts w b n D P f)(p:n<=1048576)(o:0<=z/\z<=1073741824)(q:Rq) :
  ∃ w',(Instr.mapUpdate 164 (.map (some b)) (.int .i64 z) (rvq q)).run prog w=.ok () w'/\Pts w' b (n+1) (D.put (.int .i64 z) (.held (rvq q))) (fun y=>P y\/y=z) (fun y=>if y=z then q else f y)/\w.grownBy w' (some b):=by
 have l:(Lit.int .i64 z).wf=true:=WalkArith.wf_i64 (by omega);obtain⟨w',j,i,m⟩:=h.own.update zL underlying164 (by unfold maxLen;omega) (val:=rvq q) (d:=.held (rvq q)) (ps:=[]) (Go.Maps.keyOf_int_mk underlying3 l) rfl;refine⟨w',j,⟨i,fun y=>?_,fun y a=>?_,fun y a=>?_⟩,m⟩
 ·by_cases a:y=z
  ·subst a;simp[Maps.has_put_same h.own.isMap (k:=.int .i64 y) True.intro]
  ·rw[Maps.has_put_other (by simpa using a),h.is y];simp[a]
 ·by_cases g:y=z
  ·subst g;simp[Maps.atKey_put_same (k:=.int .i64 y) h.own.isMap True.intro]
  ·rw[Maps.atKey_put_other (by simpa using g),h.el y (by rcases a with a|a;exact a;exact absurd a g)];simp[g]
 ·rcases a with a|rfl
  ·exact h.rng y a
  ·exact o
theorem Pts.lookOk {D:DataW Value}{f:Int->Rq}(h:Pts w b n D P f)(l:0<=z/\z<=1073741824) :
  (P z/\(Instr.lookup 164 (.map (some b)) (.int .i64 z) true).run prog w=.ok (.tuple #[rvq (f z),.bool true]) w)\/(¬ P z/\(Instr.lookup 164 (.map (some b)) (.int .i64 z) true).run prog w=.ok (.tuple #[rv 0 0,.bool false]) w):=by
 have j:(Lit.int .i64 z).wf=true:=WalkArith.wf_i64 (by omega);obtain⟨m,ps,g,a⟩:=h.own.look_ok zL underlying164 (axQ w) (zd:=.held (rv 0 0)) (zp:=[]) rfl (Go.Maps.keyOf_int_mk underlying3 j);cases hh:Maps.has D (.int .i64 z) with
 | true =>
  left;have i:=(h.is z).1 hh;rw[h.el z i] at a;simp[hR] at a;exact⟨i,by rw[g,a.1,hh]⟩
 | false =>
  right;have i:¬ P z:=fun c=>by rw[(h.is z).2 c] at hh;cases hh
  have k:D.atKey (.int .i64 z) (.held (rv 0 0))=.held (rv 0 0):=Maps.atKey_of_not_has hh _;rw[k] at a;simp[hR] at a;exact⟨i,by rw[g,a.1,hh]⟩
def sI (bud al fp ls m:Rq) (there:Bool) (cnt:Nat) (part:Int):Int :=
 if part<0\/1073741824<part then 3 else if there=false/\64<=cnt then 5 else if (oQ fp ls).2=0 then jH bud al m else (oQ fp ls).2
def jW (w:World) (bud al:Rq) (n cnt:Nat) (there:Bool) (P:Int->Prop) (f:Int->Rq) (part:Int) (q:Rq) (er:Int):Ending->World->Prop:=fun x w' =>
 xQ w w'/\((er≠0/\x=.returned (.tuple #[zp,int i64 er])) \/
  (er=0/\∃ b D,x=.returned (.tuple #[pv bud al b,int i64 0])/\w.heap.size<=b/\Pts w' b (n+1) D (fun y=>P y\/y=part) (fun y=>if y=part then q else f y)/\Maps.size D=if there then cnt else cnt+1))
theorem Pts.new (w:World)(f:Int->Rq):Pts (w.alloc (.map #[] 0)) w.heap.size 0 (.map []) (fun _=>False) f :=
 ⟨World.ownsMap_made _ _ _ _,fun z=>by simp[Maps.has],fun _ h=>h.elim,fun _ h=>h.elim⟩
theorem crZ (h k ls j:Rq)(T n cnt:Nat)(D:DataW Value)(P:Int->Prop)(f:Int->Rq)(g:Int)(w:World)(hp:Pts w T n D P f)(hn:n+1<=1048576)(b6:Maps.size D=cnt)(a9:0<=g/\g<=1073741824)(aa:P g)(aw:f g=j)(az:pQ j)(m:Rq)
  (ht:(oQ j ls).2=0->Top (fun y=>if y=g then (oQ j ls).1 else f y) (fun y=>P y\/y=g) m) (ha:pQ k) (au:pQ h) (ay:pQ ls) (er:Int) (hr:sI h k j ls m true cnt g=er) :
  Calls prog 134 #[pv h k T,.int .i64 g,rvq ls] w (jW w h k n cnt true P f g (oQ j ls).1 er):=by
 have i:(if true=false/\64<=cnt then 5 else if (oQ j ls).2=0 then jH h k m else (oQ j ls).2)=er:=by rw[<-hr,sI,zQ (show ¬ (g<0\/1073741824<g) by omega)]
 clear hr;obtain⟨⟨q,e⟩,R⟩:∃ y,oQ j ls=y:=⟨_,rfl⟩;have kt:=times_any j.1 j.2 ls.1 ls.2 q.1 q.2 e (by rw[eN,R]);have HP:=qQ hp
 have O:(true=false/\64<=cnt/\er=5)\/(¬ (true=false/\64<=cnt)/\e=4/\er=4)\/(¬ (true=false/\64<=cnt)/\e=0/\pQ q/\jH h k m=er):=by
  rw[R] at i;by_cases c:true=false/\64<=cnt
  ·rw[jQ c] at i;exact .inl ⟨c.1,c.2,i.symm⟩
  rw[zQ c] at i;rcases rI az ay with⟨o,M,_⟩|o
  ·rw[R] at o M
   simp only at o M i;rw[jQ o] at i;exact .inr (.inr ⟨c,o,M,i⟩)
  ·rw[R] at o
   simp only[cQ] at o;obtain⟨_,rfl⟩:=o;right;left;exact⟨c,rfl,by simpa using i.symm⟩
 rw[R] at ht;rw[R];simp only at ht;clear hp i R;obtain⟨B,A⟩:∃ B,((w.alloc (.cells #[.int .i64 h.1,.int .i64 h.2,.int .i64 k.1,.int .i64 k.2,.map (some T)] 166)).alloc (.cells #[.int .i64 ls.1,.int .i64 ls.2] 37)).alloc (.cells #[.int .i64 0,.int .i64 0,.int .i64 0,.int .i64 0,.map none] 166)=B:=⟨_,rfl⟩;have b8:B.heap.size=w.heap.size+1+1+1:=by rw[<-A];simp
 have B0:xQ w B:=by rw[<-A];exact bal (bal (ba _ _) _) _
 have V0:Hid (FivB B w.heap.size (.int .i64 h.1) (.int .i64 h.2) (.int .i64 k.1) (.int .i64 k.2) (.map (some T))):=by rw[<-A];exact((FivB.new _ _ _ _ _ _ 166 _ rfl).below (ba _ _)).below (ba _ _)
 have V1:Hid (TwoB B (w.heap.size+1) (.int .i64 ls.1) (.int .i64 ls.2)):=by rw[<-A];exact(TwoB.new _ _ _ 37 _ (by simp)).below (ba _ _)
 have V2:Hid (FivB B (w.heap.size+1+1) (.int .i64 0) (.int .i64 0) (.int .i64 0) (.int .i64 0) (.map none)):=by rw[<-A];exact FivB.new _ _ _ _ _ _ 166 _ (by simp)
 have P0:=qQ (HP.out.keep B0);have q1:¬ g<0:=by omega
 have q2:¬ 1073741824<g:=by omega
 have d5:(Instr.lookup 164 (.map (some T)) (.int .i64 g) true).run prog B=.ok (.tuple #[rvq j,.bool true]) B:=by
  rcases P0.out.lookOk a9 with⟨o,M⟩|⟨o,M⟩
  ·rw[M,aw]
  ·exact absurd aa o
 obtain⟨c0,c1,c2,c3,c4,f0,f1,f2,f3,f4,cx⟩:=V0.out;obtain⟨l0,l1,ac,ae,cy⟩:=V1.out;obtain⟨d0,d1,d2,d3,d4,g0,g1,g2,g3,g4,cz⟩:=V2.out;go_enter func134,ntmps134;obtain⟨X,hX⟩:∃ X,B.alloc (.cells #[.int .i64 j.1,.int .i64 j.2] 37)=X:=⟨_,rfl⟩;have U:xQ B X:=by rw[<-hX];exact ba _ _
 have I:=qQ (V0.out.below U);have ao:=qQ (V1.out.below U);have J:=qQ (V2.out.below U);have aq:Hid (TwoB X (w.heap.size+1+1+1) (.int .i64 j.1) (.int .i64 j.2)):=by rw[<-hX];exact TwoB.new _ _ _ 37 _ b8.symm
 have PX:=qQ (P0.out.keep U);have V:xQ w X:=bt B0 U;clear c0 c1 c2 c3 l0 l1 d0 d1 d2 d3 d4 ac ae f0 f1 f2 f3 f4 g0 g1 g2 g3 g4;obtain⟨x0,x1,x2,x3,x4,ef,eg,eh,ei,ej,ce⟩:=I.out;obtain⟨l0,l1,ac,ae,cf⟩:=ao.out;obtain⟨d0,d1,d2,d3,d4,g0,g1,g2,g3,g4,F⟩:=J.out;obtain⟨t0,t1,dq,dr,cg⟩:=aq.out;rcases O with⟨N,cw,rfl⟩|⟨N,rfl,rfl⟩|⟨N,rfl,d7,a7⟩
 ·cases N
 ·go_wp2_with fail
  refine(kt _).mono ?_;rintro e2 C ⟨rfl,z⟩;have ak:=bt V z;obtain⟨m0,m1,m2,m3,m4,h0,o,M,h3,h4,ax⟩:=J.out.below z;go_wp2_with fail;exact eQ (v:=.tuple #[zp,.int .i64 4]) (by simp[results,results134,go_sem,m0,m1,m2,m3,m4,ax]) rfl ⟨bal (eY ak (by omega) _ _ _ _ _) _,.inl ⟨by decide,rfl⟩⟩
 ·go_wp2_with fail
  refine(kt _).mono ?_;rintro e2 C ⟨rfl,z⟩;obtain⟨p,a6⟩:∃ p,C.alloc (.cells #[.int .i64 q.1,.int .i64 q.2] 37)=p:=⟨_,rfl⟩;have S:xQ X p:=by rw[<-a6];exact bal z _
  have T3:Hid (TwoB p C.heap.size (.int .i64 q.1) (.int .i64 q.2)):=by rw[<-a6];exact TwoB.new _ _ _ 37 _ rfl
  have P3:=qQ (PX.out.keep S);obtain⟨n0,n1,n2,n3,n4,di,dj,dl,dm,dp,d6⟩:=I.out.below S;go_wp2_with fail;refine(avQ hR T n D _ P3.out.own).mono ?_;rintro e4 G ⟨rfl,a8,E,cd⟩;have P4:Hid (Pts G p.heap.size n D P f):=⟨a8,P3.out.is,P3.out.el,P3.out.rng⟩;have Z:=qQ ((I.out.below S).below E);have db:=S.size;obtain⟨Y,hY⟩:∃ Y,G.setCell ⟨w.heap.size,4,none⟩ (.map (some p.heap.size))=Y:=⟨_,rfl⟩;have L:G.grownBy Y (some w.heap.size):=by rw[<-hY];exact aX (wX _ _) _ _
  have PY:=qQ (P4.out.gb L (by simp;omega));obtain⟨w5,dc,P5,g5⟩:=PY.out.put (by omega) a9 q
  have T5:TwoB Y C.heap.size (.int .i64 q.1) (.int .i64 q.2):=by
   obtain⟨a1,a2,a3,a4,a5⟩:=T3.out.below E;have hk:Y.heap[C.heap.size]? = G.heap[C.heap.size]?:=L.block _ a5 (by have:=z.size;simp;omega);exact⟨(vJ (w:=G) (a:=⟨C.heap.size,0,none⟩) hk).trans a1,(vJ (w:=G) (a:=⟨C.heap.size,1,none⟩) hk).trans a2,(nV (w:=G) (a:=⟨C.heap.size,0,none⟩) hk).trans a3,(nV (w:=G) (a:=⟨C.heap.size,1,none⟩) hk).trans a4,lQ a5 L.size⟩
  have VY:Hid (FivB Y w.heap.size (.int .i64 h.1) (.int .i64 h.2) (.int .i64 k.1) (.int .i64 k.2) (.map (some p.heap.size))):=by
   rw[<-hY];obtain⟨a0,a1,a2,a3,a4,b0,b1,b2,b3,b4,b5⟩:=Z.out;exact⟨(jX (by simp)).trans a0,(jX (by simp)).trans a1,(jX (by simp)).trans a2,(jX (by simp)).trans a3,uU a4,eJ.trans b0,eJ.trans b1,eJ.trans b2,eJ.trans b3,eJ.trans b4,by simpa using b5⟩
  have V5:=qQ (VY.out.gb g5 (by simp;omega));have R5:=qQ ((((J.out.below S).below E).gb L (by simp;omega)).gb g5 (by have:=F;simp;omega));have B5:xQ w w5:=((bt V (bt S E)).trans (yF L (vQ _) (by omega))).trans (yF g5 (by omega) (by have:=L.size;omega));obtain⟨dt,du,_,_,dw⟩:=T5;obtain⟨z0,z1,z2,z3,z4,ek,em,en,eo,ep,hz⟩:=Z.out;obtain⟨u0,u1,u2,u3,u4,dx,dy,dz,e3,e5,hu⟩:=VY.out;obtain⟨v0,v1,v2,v3,v4,e7,e8,e9,ea,eb,hv⟩:=V5.out;have kc:=fun W (hW:Pts W p.heap.size (n+1) _ (fun y=>P y\/y=g) (fun y=>if y=g then q else f y))=>zW h k p.heap.size (n+1) (D.put (.int .i64 g) (.held (rvq q))) _ _ W hW (by omega) m (ht (by simp)) ha au er a7;have H:=P5
  have an:Hid (Maps.size (D.put (.int .i64 g) (.held (rvq q)))=if true then cnt else cnt+1):=by
   rw[Hid,Maps.size_put (HP.out.own.tidy zL),b6];rw[(HP.out.is g).2 aa]
  clear a7 ht L g5 a8 P5;by_cases Q:er=0
  ·subst Q
   simp only[↓reduceIte] at kc;go_wp2_with fail;refine(kc _ H).mono ?_;rintro e6 w6 ⟨rfl,l⟩;obtain⟨s0,s1,s2,s3,s4,bc,bf,bg,bh,bi,hs⟩:=R5.out.below l;go_wp2_with fail;exact eQ (v:=.tuple #[pv h k p.heap.size,.int .i64 0]) (by simp[results,results134,go_sem,s0,s1,s2,s3,s4]) rfl ⟨eY (bt B5 l) (by omega) _ _ _ _ _,.inr ⟨rfl,p.heap.size,_,rfl,by omega,(H.keep l).gb (aX (aX (aX (aX (aX (wX _ _) _ _) _ _) _ _) _ _) _ _) (by have:=F;simp;omega),an.out⟩⟩
  ·simp only[Q,↓reduceIte] at kc
   go_wp2_with fail;refine(kc _ H).mono ?_;rintro e6 w6 ⟨rfl,l⟩;obtain⟨s0,s1,s2,s3,s4,bc,bf,bg,bh,bi,hs⟩:=R5.out.below l;go_wp2_with fail;exact eQ (v:=.tuple #[zp,.int .i64 er]) (by simp[results,results134,go_sem,s0,s1,s2,s3,s4]) rfl ⟨eY (bt B5 l) (by omega) _ _ _ _ _,.inl ⟨Q,rfl⟩⟩
theorem crJ (i k ls E:Rq)(bm n cnt:Nat)(D:DataW Value)(P:Int->Prop)(f:Int->Rq)(g:Int)(w:World)(hp:Pts w bm n D P f)(hn:n+1<=1048576)(V:Maps.size D=cnt)(ag:0<=g/\g<=1073741824)(ah:¬ P g)(bg:E=pX)(bj:pQ E)(m:Rq)
  (ht:(oQ E ls).2=0->Top (fun y=>if y=g then (oQ E ls).1 else f y) (fun y=>P y\/y=g) m) (ha:pQ k) (bf:pQ i) (bi:pQ ls) (er:Int) (hr:sI i k E ls m false cnt g=er) :
  Calls prog 134 #[pv i k bm,.int .i64 g,rvq ls] w (jW w i k n cnt false P f g (oQ E ls).1 er):=by
 have j:(if false=false/\64<=cnt then 5 else if (oQ E ls).2=0 then jH i k m else (oQ E ls).2)=er:=by rw[<-hr,sI,zQ (show ¬ (g<0\/1073741824<g) by omega)]
 clear hr;obtain⟨⟨q,e⟩,U⟩:∃ y,oQ E ls=y:=⟨_,rfl⟩;have kt:=times_any 1 1 ls.1 ls.2 q.1 q.2 e (by subst bg;have h0:=eN pX ls;rw[U] at h0;exact h0);have HP:=qQ hp
 have S:(false=false/\64<=cnt/\er=5)\/(¬ (false=false/\64<=cnt)/\e=4/\er=4)\/(¬ (false=false/\64<=cnt)/\e=0/\pQ q/\jH i k m=er):=by
  rw[U] at j;by_cases c:false=false/\64<=cnt
  ·rw[jQ c] at j;exact .inl ⟨c.1,c.2,j.symm⟩
  rw[zQ c] at j;rcases rI bj bi with⟨o,R,_⟩|o
  ·rw[U] at o R
   simp only at o R j;rw[jQ o] at j;exact .inr (.inr ⟨c,o,R,j⟩)
  ·rw[U] at o
   simp only[cQ] at o;obtain⟨_,rfl⟩:=o;right;left;exact⟨c,rfl,by simpa using j.symm⟩
 rw[U] at ht;rw[U];simp only at ht;clear hp j U;obtain⟨B,A⟩:∃ B,((w.alloc (.cells #[.int .i64 i.1,.int .i64 i.2,.int .i64 k.1,.int .i64 k.2,.map (some bm)] 166)).alloc (.cells #[.int .i64 ls.1,.int .i64 ls.2] 37)).alloc (.cells #[.int .i64 0,.int .i64 0,.int .i64 0,.int .i64 0,.map none] 166)=B:=⟨_,rfl⟩;have bk:B.heap.size=w.heap.size+1+1+1:=by rw[<-A];simp
 have B0:xQ w B:=by rw[<-A];exact bal (bal (ba _ _) _) _
 have V0:Hid (FivB B w.heap.size (.int .i64 i.1) (.int .i64 i.2) (.int .i64 k.1) (.int .i64 k.2) (.map (some bm))):=by rw[<-A];exact((FivB.new _ _ _ _ _ _ 166 _ rfl).below (ba _ _)).below (ba _ _)
 have V1:Hid (TwoB B (w.heap.size+1) (.int .i64 ls.1) (.int .i64 ls.2)):=by rw[<-A];exact(TwoB.new _ _ _ 37 _ (by simp)).below (ba _ _)
 have V2:Hid (FivB B (w.heap.size+1+1) (.int .i64 0) (.int .i64 0) (.int .i64 0) (.int .i64 0) (.map none)):=by rw[<-A];exact FivB.new _ _ _ _ _ _ 166 _ (by simp)
 have P0:=qQ (HP.out.keep B0);have q1:¬ g<0:=by omega
 have q2:¬ 1073741824<g:=by omega
 have dh:(Instr.lookup 164 (.map (some bm)) (.int .i64 g) true).run prog B=.ok (.tuple #[rv 0 0,.bool false]) B:=by
  rcases P0.out.lookOk ag with⟨o,R⟩|⟨o,R⟩
  ·exact absurd o ah
  ·exact R
 obtain⟨c0,c1,c2,c3,c4,f0,f1,f2,f3,f4,de⟩:=V0.out;obtain⟨l0,l1,ai,aj,df⟩:=V1.out;obtain⟨d0,d1,d2,d3,d4,g0,g1,g2,g3,g4,dg⟩:=V2.out;go_enter func134,ntmps134;go_wp2_with fail;refine(vT _).mono ?_;rintro e1 w1 ⟨rfl,aa⟩;have BY:xQ B w1:=bt (ba _ _) aa;have b6:TwoB w1 (w.heap.size+1+1+1) (.int .i64 0) (.int .i64 0):=(TwoB.new _ _ _ 37 _ bk.symm).below aa;obtain⟨y0,y1,bz,c6,hy⟩:=b6;obtain⟨X,hX⟩:∃ X,(w1.setCell ⟨w.heap.size+1+1+1,0,none⟩ (.int .i64 1)).setCell ⟨w.heap.size+1+1+1,1,none⟩ (.int .i64 1)=X:=⟨_,rfl⟩;have BX:xQ B X:=by rw[<-hX];exact bs (bs BY (by simp;omega) _) (by simp;omega) _
 have N:=qQ (V0.out.below BX);have ay:=qQ (V1.out.below BX);have O:=qQ (V2.out.below BX);have az:Hid (TwoB X (w.heap.size+1+1+1) (.int .i64 1) (.int .i64 1)):=by rw[<-hX];exact TwoB.put ⟨y0,y1,bz,c6,hy⟩ _ _
 have PX:=qQ (P0.out.keep BX);have L:xQ w X:=bt B0 BX;have af:=PX.out.own.len underlying164 3;rw[V] at af;have dp:cnt<=1048576:=by rw[<-V];exact bQ HP.out.own.size_le (by omega)
 clear c0 c1 c2 c3 l0 l1 d0 d1 d2 d3 d4 ai aj f0 f1 f2 f3 f4 g0 g1 g2 g3 g4;obtain⟨x0,x1,x2,x3,x4,eu,ew,ey,ez,f6,cq⟩:=N.out;obtain⟨l0,l1,ai,aj,cr⟩:=ay.out;obtain⟨d0,d1,d2,d3,d4,g0,g1,g2,g3,g4,I⟩:=O.out;obtain⟨t0,t1,e9,ea,ct⟩:=az.out;rcases S with⟨G,dd,rfl⟩|⟨G,rfl,rfl⟩|⟨G,rfl,dj,ac⟩
 ·have H:decide ((64:Int)<=(cnt:Int))=true:=sJ (by omega)
  go_wp2_with fail;exact eQ (v:=.tuple #[zp,.int .i64 5]) (by simp[results,results134,go_sem,d0,d1,d2,d3,d4]) rfl ⟨eY L (by omega) _ _ _ _ _,.inl ⟨by decide,rfl⟩⟩
 ·have H:decide ((64:Int)<=(cnt:Int))=false:=lZ (by simp at G;omega)
  go_wp2_with fail;refine(kt _).mono ?_;rintro e2 C ⟨rfl,z⟩;have aw:=bt L z;obtain⟨m0,m1,m2,m3,m4,h0,o,R,h3,h4,bh⟩:=O.out.below z;go_wp2_with fail;exact eQ (v:=.tuple #[zp,.int .i64 4]) (by simp[results,results134,go_sem,m0,m1,m2,m3,m4,bh]) rfl ⟨bal (eY aw (by omega) _ _ _ _ _) _,.inl ⟨by decide,rfl⟩⟩
 ·have H:decide ((64:Int)<=(cnt:Int))=false:=lZ (by simp at G;omega)
  go_wp2_with fail;refine(kt _).mono ?_;rintro e2 C ⟨rfl,z⟩;obtain⟨p,a9⟩:∃ p,C.alloc (.cells #[.int .i64 q.1,.int .i64 q.2] 37)=p:=⟨_,rfl⟩;have Z:xQ X p:=by rw[<-a9];exact bal z _
  have T3:Hid (TwoB p C.heap.size (.int .i64 q.1) (.int .i64 q.2)):=by rw[<-a9];exact TwoB.new _ _ _ 37 _ rfl
  have P3:=qQ (PX.out.keep Z);obtain⟨n0,n1,n2,n3,n4,dz,e3,e5,e7,e8,di⟩:=N.out.below Z;go_wp2_with fail;refine(avQ hR bm n D _ P3.out.own).mono ?_;rintro e4 J ⟨rfl,ae,F,co⟩;have P4:Hid (Pts J p.heap.size n D P f):=⟨ae,P3.out.is,P3.out.el,P3.out.rng⟩;have a8:=qQ ((N.out.below Z).below F);have dm:=Z.size;obtain⟨Y,hY⟩:∃ Y,J.setCell ⟨w.heap.size,4,none⟩ (.map (some p.heap.size))=Y:=⟨_,rfl⟩;have Q:J.grownBy Y (some w.heap.size):=by rw[<-hY];exact aX (wX _ _) _ _
  have PY:=qQ (P4.out.gb Q (by simp;omega));obtain⟨w5,dq,P5,g5⟩:=PY.out.put (by omega) ag q
  have T5:TwoB Y C.heap.size (.int .i64 q.1) (.int .i64 q.2):=by
   obtain⟨a1,a2,a3,a4,a5⟩:=T3.out.below F;have hk:Y.heap[C.heap.size]? = J.heap[C.heap.size]?:=Q.block _ a5 (by have:=z.size;simp;omega);exact⟨(vJ (w:=J) (a:=⟨C.heap.size,0,none⟩) hk).trans a1,(vJ (w:=J) (a:=⟨C.heap.size,1,none⟩) hk).trans a2,(nV (w:=J) (a:=⟨C.heap.size,0,none⟩) hk).trans a3,(nV (w:=J) (a:=⟨C.heap.size,1,none⟩) hk).trans a4,lQ a5 Q.size⟩
  have VY:Hid (FivB Y w.heap.size (.int .i64 i.1) (.int .i64 i.2) (.int .i64 k.1) (.int .i64 k.2) (.map (some p.heap.size))):=by
   rw[<-hY];obtain⟨a0,a1,a2,a3,a4,b0,b1,b2,b3,b4,b5⟩:=a8.out;exact⟨(jX (by simp)).trans a0,(jX (by simp)).trans a1,(jX (by simp)).trans a2,(jX (by simp)).trans a3,uU a4,eJ.trans b0,eJ.trans b1,eJ.trans b2,eJ.trans b3,eJ.trans b4,by simpa using b5⟩
  have V5:=qQ (VY.out.gb g5 (by simp;omega));have R5:=qQ ((((O.out.below Z).below F).gb Q (by simp;omega)).gb g5 (by have:=I;simp;omega));have B5:xQ w w5:=((bt L (bt Z F)).trans (yF Q (vQ _) (by omega))).trans (yF g5 (by omega) (by have:=Q.size;omega));obtain⟨eb,ec,_,_,ed⟩:=T5;obtain⟨z0,z1,z2,z3,z4,f7,f8,fa,fb,fc,hz⟩:=a8.out;obtain⟨u0,u1,u2,u3,u4,ef,eg,eh,ei,ej,hu⟩:=VY.out;obtain⟨v0,v1,v2,v3,v4,ek,em,en,eo,ep,hv⟩:=V5.out;have kc:=fun W (hW:Pts W p.heap.size (n+1) _ (fun y=>P y\/y=g) (fun y=>if y=g then q else f y))=>zW i k p.heap.size (n+1) (D.put (.int .i64 g) (.held (rvq q))) _ _ W hW (by omega) m (ht (by simp)) ha bf er ac;have M:=P5
  have ax:Hid (Maps.size (D.put (.int .i64 g) (.held (rvq q)))=if false then cnt else cnt+1):=by
   rw[Hid,Maps.size_put (HP.out.own.tidy zL),V];rw[show Maps.has D (.int .i64 g)=false from by cases h:Maps.has D (.int .i64 g) with|false=>rfl|true=>exact absurd ((HP.out.is g).1 h) ah]
  clear ac ht Q g5 ae P5;by_cases T:er=0
  ·subst T
   simp only[↓reduceIte] at kc;go_wp2_with fail;refine(kc _ M).mono ?_;rintro e6 w6 ⟨rfl,l⟩;obtain⟨s0,s1,s2,s3,s4,bp,bq,br,bv,bw,hs⟩:=R5.out.below l;go_wp2_with fail;exact eQ (v:=.tuple #[pv i k p.heap.size,.int .i64 0]) (by simp[results,results134,go_sem,s0,s1,s2,s3,s4]) rfl ⟨eY (bt B5 l) (by omega) _ _ _ _ _,.inr ⟨rfl,p.heap.size,_,rfl,by omega,(M.keep l).gb (aX (aX (aX (aX (aX (wX _ _) _ _) _ _) _ _) _ _) _ _) (by have:=I;simp;omega),ax.out⟩⟩
  ·simp only[T,↓reduceIte] at kc
   go_wp2_with fail;refine(kc _ M).mono ?_;rintro e6 w6 ⟨rfl,l⟩;obtain⟨s0,s1,s2,s3,s4,bp,bq,br,bv,bw,hs⟩:=R5.out.below l;go_wp2_with fail;exact eQ (v:=.tuple #[zp,.int .i64 er]) (by simp[results,results134,go_sem,s0,s1,s2,s3,s4]) rfl ⟨eY (bt B5 l) (by omega) _ _ _ _ _,.inl ⟨T,rfl⟩⟩
theorem csQ (w:World):Calls prog 177 #[] w fun e w'=>e=.returned (rv 1 1)/\w' = w.alloc (.cells #[int i64 1,int i64 1] 37):=by
 go_enter func177,ntmps177;go_wp2;exact eQ (v:=rv 1 1) (by simp[results,results177,go_sem]) rfl ⟨rfl,rfl⟩
theorem Pts.new' (w:World)(f:Int->Rq)(N:Nat)(a:N=w.heap.size):Pts (w.alloc (.map #[] 0)) N 0 (.map []) (fun _=>False) f:=by subst a;exact Pts.new w f
theorem csX (a:Rq)(f:Int->Rq)(w:World):Calls prog 135 #[rvq a] w fun x w'=>∃ b,x=.returned (pv a pX b)/\xQ w w'/\w.heap.size<=b/\Pts w' b 0 (.map []) (fun _=>False) f:=by
 have g:=@run_makeMap prog;go_enter func135,ntmps135;go_wp2_with fail
 go_region_with (go_at_call 177;refine(csQ _).mono ?_;rintro e w' ⟨rfl,rfl⟩)
 all_goals go_wp2_with fail
 all_goals first
  | exact eQ (v:=pv a pX (w.heap.size+1+1+1)) (by simp[results,results135,go_sem,pX]) rfl ⟨_,rfl,Below.drew (bal (bal (bal (ba _ _) _) _) _),by omega,(Pts.new' _ f (w.heap.size+1+1+1) (by simp)).gb (kV (wX _ none)) (by simp)⟩
  | exact eQ (v:=pv a pX (w.heap.size+1+1)) (by simp[results,results135,go_sem,pX]) rfl ⟨_,rfl,Below.drew (bal (bal (bal (ba _ _) _) _) _),by omega,((Pts.new' _ f (w.heap.size+1+1) (by simp)).keep (ba _ _)).gb (kV (wX _ none)) (by simp)⟩
theorem dT (s:ByteArray)(m:s.size<=9223372036854775807)(w:World)(r:Bool)(l:mJ s.data.toList=r):Calls prog 131 #[.string s] w (iQ w (.bool r)):=by
 have j:Hid (kQ (w.alloc (.cells #[.string s,int i64 1] 108)) (w.heap.size+1) (.slice (some ⟨w.heap.size,0,none⟩) 1 1) [(s,1)]):=⟨_,1,rfl,vQ _,by simp,by simpa using m,fun _=>⟨w.heap.size,0,rfl,by omega,fun i x hi=>by
  obtain⟨rfl,rfl⟩:i=0/\x=(s,1):=by
   cases i with
   | zero=>simpa using hi.symm
   | succ i=>simp at hi
  exact⟨nc _ _ 0 _ rfl rfl,nc _ _ 1 _ rfl rfl⟩⟩⟩
 have k:oY [(s,1)]=if r then 0 else 2:=by
  unfold oY;rw[zQ (by simp)]
  have:tV [] [(s,1)]=if r then 0 else 2:=by
   cases r <;> simp[tV,l]
  rw[this];cases r <;> simp[prd]
 cases r with
 | true =>
  have g:=fun W h=>eS (w.heap.size+1) (.slice (some ⟨w.heap.size,0,none⟩) 1 1) [(s,1)] W h (er:=0);go_enter func131,ntmps131;go_wp2_with fail;refine(g _ (by simp) j.out (by simpa using k)).mono ?_;rintro e o ⟨rfl,a⟩;go_wp2_with fail;go_ret;exact⟨rfl,bt (ba _ _) a⟩
 | false =>
  have g:=fun W h=>eS (w.heap.size+1) (.slice (some ⟨w.heap.size,0,none⟩) 1 1) [(s,1)] W h (er:=2);go_enter func131,ntmps131;go_wp2_with fail;refine(g _ (by simp) j.out (by simpa using k)).mono ?_;rintro e o ⟨rfl,a⟩;go_wp2_with fail;go_ret;exact⟨rfl,bt (ba _ _) a⟩
abbrev ev (e:En):Value:=.agg #[int i64 e.1,.string e.2.1,int i64 e.2.2.1,int i64 e.2.2.2.1,int i64 e.2.2.2.2]
theorem vL (e:En)(o:e.2.1.size<=281474976710656)(w:World):Calls prog 84 #[ev e] w (iQ w (ev (nrm e))):=by
 obtain⟨d,nm,p,u,v⟩:=e;simp only at o;have y:=fun W=>avX nm W o;by_cases k:d=3
 ·subst k
  rw[show nrm (3,nm,p,u,v)=(3,nm,p,u,v) from rfl];have g:Hid (FivB ((w.alloc (.cells #[int i64 3,.string nm,int i64 p,int i64 u,int i64 v] 72)).alloc (.cells #[int i64 0,.string ⟨#[]⟩,int i64 0,int i64 0,int i64 0] 72)) w.heap.size (int i64 3) (.string nm) (int i64 p) (int i64 u) (int i64 v)):=(FivB.new _ _ _ _ _ _ 72 _ rfl).below (ba _ _);have h:Hid (FivB ((w.alloc (.cells #[int i64 3,.string nm,int i64 p,int i64 u,int i64 v] 72)).alloc (.cells #[int i64 0,.string ⟨#[]⟩,int i64 0,int i64 0,int i64 0] 72)) (w.heap.size+1) (int i64 0) (.string ⟨#[]⟩) (int i64 0) (int i64 0) (int i64 0)):=FivB.new _ _ _ _ _ _ 72 _ (by simp);go_enter func84,ntmps84;go_wp2_with fail;refine(y _).mono ?_;rintro e1 D ⟨rfl,a⟩;obtain⟨c0,c1,c2,c3,c4,f0,f1,f2,f3,f4,l⟩:=g.out.below a;obtain⟨d0,d1,d2,i,j,z,A,g2,B,C,m⟩:=h.out.below a;go_wp2_with fail;exact eQ (v:=ev (3,nm,p,u,v)) (by simp[results,results84,go_sem,d0,d1,d2,i,j]) rfl ⟨rfl,eY (bs (bt (bal (ba _ _) _) a) (vQ _) _) (by omega) _ _ _ _ _⟩
 ·rw[show nrm (d,nm,p,u,v)=(d,nm,0,u,v) from by simp[nrm,k]]
  have E:(d != 3)=true:=by simpa using k
  have g:Hid (FivB ((w.alloc (.cells #[int i64 d,.string nm,int i64 0,int i64 u,int i64 v] 72)).alloc (.cells #[int i64 0,.string ⟨#[]⟩,int i64 0,int i64 0,int i64 0] 72)) w.heap.size (int i64 d) (.string nm) (int i64 0) (int i64 u) (int i64 v)):=(FivB.new _ _ _ _ _ _ 72 _ rfl).below (ba _ _);have h:Hid (FivB ((w.alloc (.cells #[int i64 d,.string nm,int i64 0,int i64 u,int i64 v] 72)).alloc (.cells #[int i64 0,.string ⟨#[]⟩,int i64 0,int i64 0,int i64 0] 72)) (w.heap.size+1) (int i64 0) (.string ⟨#[]⟩) (int i64 0) (int i64 0) (int i64 0)):=FivB.new _ _ _ _ _ _ 72 _ (by simp);go_enter func84,ntmps84;go_wp2_with fail;refine(y _).mono ?_;rintro e1 D ⟨rfl,a⟩;obtain⟨c0,c1,c2,c3,c4,f0,f1,f2,f3,f4,l⟩:=g.out.below a;obtain⟨d0,d1,d2,i,j,z,A,g2,B,C,m⟩:=h.out.below a;go_wp2_with fail;exact eQ (v:=ev (d,nm,0,u,v)) (by simp[results,results84,go_sem,d0,d1,d2,i,j]) rfl ⟨rfl,eY (bs (bt (bal (ba _ _) _) a) (vQ _) _) (by omega) _ _ _ _ _⟩
theorem csZ (e:En):(¬ (e.1=1\/e.1=2\/e.1=3)/\mZ e=1)\/((e.1=1\/e.1=2\/e.1=3)/\((mJ e.2.1.data.toList=false/\mZ e=2)\/(mJ e.2.1.data.toList=true/\Rt.rQ e.2.2.2.1 e.2.2.2.2=false/\mZ e=2) \/
  (mJ e.2.1.data.toList=true/\Rt.rQ e.2.2.2.1 e.2.2.2.2=true/\e.2.2.2.1<e.2.2.2.2/\mZ e=3)\/(mJ e.2.1.data.toList=true/\Rt.rQ e.2.2.2.1 e.2.2.2.2=true/\¬ e.2.2.2.1<e.2.2.2.2/\mZ e=0))):=by
 unfold mZ;by_cases c:e.1<1\/3<e.1
 ·left;exact⟨by omega,by rw[jQ c]⟩
 right;rw[zQ c];refine⟨by omega,?_⟩;cases hn:mJ e.2.1.data.toList with
 | false=>left;simp
 | true =>
  right;cases hr:Rt.rQ e.2.2.2.1 e.2.2.2.2 with
  | false=>left;simp
  | true =>
   right;by_cases c2:e.2.2.2.1<e.2.2.2.2
   ·left;simp[c2]
   ·right;simp[c2]
theorem rK (e:En)(y:e.2.1.size<=9223372036854775807)(w:World)(er:Int)(C:mZ e=er):Calls prog 82 #[ev e] w (iQ w (int i64 er)):=by
 obtain⟨d,nm,p,u,v⟩:=e;have m:=csZ (d,nm,p,u,v);rw[C] at m;clear C;simp only at m y;rcases m with⟨l,rfl⟩|⟨l,m⟩
 ·have M:(d != 1)=true:=by simp;omega
  have N:(d != 2)=true:=by simp;omega
  have O:(d != 3)=true:=by simp;omega
  go_enter func82,ntmps82;go_wp2;go_ret;exact⟨rfl,ba _ _⟩
 ·rcases m with⟨h,rfl⟩|⟨h,i,rfl⟩|⟨h,i,L,rfl⟩|⟨h,i,L,rfl⟩
  ·have k:=fun W=>dT nm y W false h
   clear h;rcases l with rfl|rfl|rfl
   all_goals
    go_enter func82,ntmps82;go_wp2_with fail;refine(k _).mono ?_;rintro e1 B ⟨rfl,a⟩;go_wp2_with fail;go_ret;exact⟨rfl,bt (ba _ _) a⟩
  ·have k:=fun W=>dT nm y W true h
   have z:=fun W=>right_any u v false i W;clear h i;have j:Hid (FivB (w.alloc (.cells #[int i64 d,.string nm,int i64 p,int i64 u,int i64 v] 72)) w.heap.size (int i64 d) (.string nm) (int i64 p) (int i64 u) (int i64 v)):=FivB.new _ _ _ _ _ _ 72 _ rfl;rcases l with rfl|rfl|rfl
   all_goals
    go_enter func82,ntmps82;go_wp2_with fail;refine(k _).mono ?_;rintro e1 B ⟨rfl,a⟩;obtain⟨c0,c1,c2,c3,c4,f0,f1,f2,f3,f4,o⟩:=j.out.below a;go_wp2_with fail;refine(z _).mono ?_;rintro e2 D ⟨rfl,g⟩;go_wp2_with fail;go_ret;exact⟨rfl,bt (bt (ba _ _) a) g⟩
  ·have k:=fun W=>dT nm y W true h
   have z:=fun W=>right_any u v true i W;clear h i;have j:Hid (FivB (w.alloc (.cells #[int i64 d,.string nm,int i64 p,int i64 u,int i64 v] 72)) w.heap.size (int i64 d) (.string nm) (int i64 p) (int i64 u) (int i64 v)):=FivB.new _ _ _ _ _ _ 72 _ rfl;rcases l with rfl|rfl|rfl
   all_goals
    go_enter func82,ntmps82;go_wp2_with fail;refine(k _).mono ?_;rintro e1 B ⟨rfl,a⟩;obtain⟨c0,c1,c2,c3,c4,f0,f1,f2,f3,f4,o⟩:=j.out.below a;go_wp2_with fail;refine(z _).mono ?_;rintro e2 D ⟨rfl,g⟩;obtain⟨d0,d1,d2,E,F,G,H,g2,I,J,A⟩:=(j.out.below a).below g;go_wp2_with fail;go_ret;exact⟨rfl,bt (bt (ba _ _) a) g⟩
  ·have k:=fun W=>dT nm y W true h
   have z:=fun W=>right_any u v true i W;clear h i;have j:Hid (FivB (w.alloc (.cells #[int i64 d,.string nm,int i64 p,int i64 u,int i64 v] 72)) w.heap.size (int i64 d) (.string nm) (int i64 p) (int i64 u) (int i64 v)):=FivB.new _ _ _ _ _ _ 72 _ rfl;rcases l with rfl|rfl|rfl
   all_goals
    go_enter func82,ntmps82;go_wp2_with fail;refine(k _).mono ?_;rintro e1 B ⟨rfl,a⟩;obtain⟨c0,c1,c2,c3,c4,f0,f1,f2,f3,f4,o⟩:=j.out.below a;go_wp2_with fail;refine(z _).mono ?_;rintro e2 D ⟨rfl,g⟩;obtain⟨d0,d1,d2,E,F,G,H,g2,I,J,A⟩:=(j.out.below a).below g;go_wp2_with fail;go_ret;exact⟨rfl,bt (bt (ba _ _) a) g⟩
