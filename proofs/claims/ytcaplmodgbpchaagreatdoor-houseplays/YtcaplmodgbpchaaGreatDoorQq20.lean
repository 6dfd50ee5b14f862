import Derived.Test.YtcaplmodgbpchaaGreatDoorQq19
import Derived.RangeFuncBox
import Derived.Laws.EntriesVeiled
open Go.Proofs.Tryz
open Go.Value(int)
open Go.IntKind(i64)
set_option linter.unusedSimpArgs false
set_option maxHeartbeats 16000000
set_option maxRecDepth 100000
namespace Go.Proofs.YtcaplmodgbpchaaGreatDoor
variable {c s:ByteArray} {A B B' E N b i k n:Nat} {a w w' wr:World} {V v v0 v1 v2 v3 v4 v5:Value} {r:Option Nat} {t:TypeId} {e:Nat × Int × Int} {es:List (Value × Nat × Int × Int)} {xs:List Value}
namespace K.Ds
abbrev cX:=ByteArray × Int × Int
abbrev dX:=Int × Int × Int
inductive Qu where
 | none
 | node (k:Int) (c:ByteArray) (lo hi:Int) (wh:List cX) (n:Nat) (x y:Qu)
def fnd:List aQ->ByteArray->Option Nat
 | [],_=>none
 | c::l,s=>if c.1=s then some 0 else (fnd l s).map (· + 1)
theorem iD {l:List aQ}(h:fnd l s=some i):i<l.length:=by
 induction l generalizing i with
 | nil=>simp[fnd] at h
 | cons c l ih =>
  simp only[fnd] at h;split at h
  ·simp only[aZ] at h;subst h;simp
  ·obtain⟨j,a,rfl⟩:=wR.1 h
   have:=ih a;simp;omega
def cM (l:List aQ) (s:ByteArray) (i:Nat):Prop:=∀ j c,j<i->l[j]? = some c->c.1≠s
theorem a0Q {l:List aQ}{c:aQ}(h:cM l s i)(hc:l[i]? = some c)(g:c.1=s):fnd l s=some i:=by
 induction l generalizing i with
 | nil=>simp at hc
 | cons d l ih =>
  simp only[fnd];cases i with
  | zero=>simp at hc;subst hc;rw[jQ g]
  | succ i =>
   have a:=h 0 d (by omega) rfl;rw[zQ a,ih (i:=i) (fun j c hj hjc=>h (j+1) c (by omega) (by simpa using hjc)) (by simpa using hc)];rfl
theorem a0X {l:List aQ}(h:cM l s l.length):fnd l s=none:=by
 induction l with
 | nil=>rfl
 | cons d l ih =>
  simp only[fnd];rw[zQ (h 0 d (by simp) rfl),ih (fun j c hj hjc=>h (j+1) c (by simp;omega) (by simpa using hjc))];rfl
theorem cM.next {l:List aQ}{c:aQ}(h:cM l s i)(hc:l[i]? = some c)(k:c.1≠s):cM l s (i+1):=by
 intro j d m a;rcases Nat.lt_or_eq_of_le (Nat.le_of_lt_succ m) with g|rfl
 ·exact h j d g a
 ·rw[hc] at a;cases a;exact k
def fY (d:Int):Bool:=decide (1<=d/\d<=6)
def zD (l:List aQ):List cX->Int
 | []=>0
 | t::r=>if (fnd l t.1).isSome then (if fY t.2.1 then zD l r else 1) else 7
def pJ (l:List aQ) (wh:List cX):Int:=if 64<wh.length then 4 else zD l wh
theorem a0Z {l:List aQ}{wh:List cX}{t:cX}(h:wh[i]? = some t):zD l (wh.drop i)=if (fnd l t.1).isSome then (if fY t.2.1 then zD l (wh.drop (i+1)) else 1) else 7:=by
 rw[eV (fQ.1 h).1,(fQ.1 h).2];rfl
theorem a0J {l:List aQ}{wh:List cX}(h:zD l wh=0):∀ t∈wh,(fnd l t.1).isSome=true/\fY t.2.1=true:=by
 induction wh with
 | nil=>intro t a;cases a
 | cons d r ih =>
  simp only[zD] at h;split at h
  ·split at h
   ·intro t a
    rcases kJ.1 a with rfl|a
    ·exact⟨by assumption,by assumption⟩
    ·exact ih h t a
   ·cases h
  ·cases h
def tQ (k:Int):Int:=if k=1\/k=2\/k=3 then 0 else if k=6\/k=8\/k=9\/k=10 then 1 else if k=4\/k=5\/k=7 then 2 else -1
def wZ (lo hi:Int):Bool:=decide (-1048576<=lo/\lo<=hi/\hi<=1048576)
def spn (lo hi:Int):Int:=if -lo<=hi then hi else -lo
theorem aF {lo hi:Int}(h:wZ lo hi=true):0<=spn lo hi/\spn lo hi<=1048576:=by
 simp only[wZ,dJ] at h;unfold spn;split <;> omega
def mx (a b:Int):Int:=if a<=b then b else a
def pV (l:List aQ) (i:Nat):Int:=(l[i]?.map (·.2)).getD 0
def eU (e:Int) (b:dX):Except Int dX:=if e=0 then .ok b else .error e
def rec (l:List aQ) (k:Int) (c:ByteArray) (lo hi:Int) (wh:List cX) (x y:dX):Except Int dX :=
 if k=1 then eU (pJ l wh) (1,1,4096)
 else if k=2 then (if (fnd l c).isSome then (if wZ lo hi then eU (pJ l wh) (1,spn lo hi,4096*spn lo hi) else .error 3) else .error 7)
 else if k=3 then (match fnd l c with|some i=>eU (pJ l wh) (pV l i,1,4096)|none=>.error 7)
 else if k=6 then (if wZ lo lo then .ok (x.1,spn lo lo*x.2.1,spn lo lo*x.2.2) else .error 3)
 else if k=7 then .ok (x.1+y.1,x.2.1+y.2.1,mx x.2.2 y.2.2)
 else if k=8 then .ok (1,x.2.1,x.1*x.2.2)
 else if k=9 then (if 0<=lo/\lo<x.1 then .ok (1,x.2.1,x.2.2) else .error 3)
 else if k=10 then (if wZ lo hi then .ok (x.1,x.2.1,spn lo hi) else .error 3)
 else (if x.1=y.1 then .ok (x.1,x.2.1+y.2.1,x.2.2+y.2.2) else .error 8)
def sH (b:dX):Bool:=decide (b.1<=4096/\b.2.1<=1099511627776/\b.2.2<=1099511627776)
def lim (b:dX):Except Int dX:=if sH b then .ok b else .error 4
def wJ (p:Prop) [Decidable p] (r:Except Int dX):Except Int dX:=if p then r else .ok (0,0,0)
def bnd (l:List aQ):Nat->Qu->Except Int dX
 | _,.none=>.ok (0,0,0)
 | lv,.node k c lo hi wh n x y =>
  if 64<lv then .error 4 else if tQ k<0 then .error 1 else if (n:Int)=tQ k then
   (match wJ (1<=n) (bnd l (lv+1) x) with
    | .error e=>.error e
    | .ok bx=>match wJ (2<=n) (bnd l (lv+1) y) with
     | .error e=>.error e
     | .ok b'=>match rec l k c lo hi wh bx b' with
      | .error e=>.error e
      | .ok b=>lim b)
  else .error 5
def mX (b:dX):Prop:=0<=b.1/\b.1<=4096/\0<=b.2.1/\b.2.1<=1099511627776/\0<=b.2.2/\b.2.2<=1099511627776
theorem eP {l:List aQ}(a:cG l)(h:fnd l s=some i):1<=pV l i/\pV l i<=4096:=by
 obtain⟨c,hc⟩:∃ c,l[i]? = some c:=⟨l[i]'(iD h),nZ (iD h)⟩;have:=a c (qX hc);simp[pV,hc];exact this
theorem nJ {a b M N:Int}(h:0<=a)(i:a<=M)(g:0<=b)(j:b<=N):0<=a*b/\a*b<=M*N :=
 ⟨sD h g,nH i j g (by omega)⟩
theorem cwJ {l:List aQ}(v:cG l){k:Int}{lo hi:Int}{wh:List cX}{x y b:dX}(z:mX x)(A:mX y)(h:rec l k c lo hi wh x y=.ok b):0<=b.1/\0<=b.2.1/\0<=b.2.2:=by
 obtain⟨x1,x2,x3⟩:=x;obtain⟨y1,y2,y3⟩:=y;obtain⟨j,m,o,p,g,i⟩:=z;obtain⟨B,C,D,E,F,G⟩:=A;simp only at j m o p g i B C D E F G;unfold rec eU at h
 repeat' split at h
 all_goals first
  | cases h;done
  | (cases h;simp only;omega)
  | (rename_i h1 _;cases h;have:=aF h1;simp only;omega)
  | skip
 ·rename_i hf _;cases h;have:=eP v hf;simp only;omega
 ·rename_i h1;cases h;have a:=aF h1
  have e1:=nJ a.1 a.2 o p;have e2:=nJ a.1 a.2 g i;simp only;omega
 ·cases h;simp only[mx];split <;> omega
 ·cases h;have e2:=nJ j m g i;simp only;omega
 ·rename_i h1;cases h;have a:=aF h1;simp only;omega
theorem a1Q {b b':dX}(h:lim b=.ok b'):b' = b/\sH b=true:=by
 unfold lim at h;split at h
 ·cases h;exact⟨rfl,by assumption⟩
 ·cases h
theorem yL {l:List aQ}(i:cG l)(q:Qu):∀ (g:Nat) (b:dX),bnd l g q=.ok b->mX b:=by
 have z:mX (0,0,0):=⟨by decide,by decide,by decide,by decide,by decide,by decide⟩
 induction q with
 | none=>intro g b h;simp only[bnd] at h;cases h;exact z
 | node k c lo hi wh n x y ihx ihy =>
  intro g b h;simp only[bnd] at h;split at h
  ·cases h
  ·split at h
   ·cases h
   ·split at h
    ·split at h
     ·cases h
     ·rename_i bx hbx
      split at h
      ·cases h
      ·rename_i b' hby
       split at h
       ·cases h
       ·rename_i b0 hr
        obtain⟨rfl,a⟩:=a1Q h
        have kx:mX bx:=by
         unfold wJ at hbx;split at hbx
         ·exact ihx _ _ hbx
         ·cases hbx;exact z
        have j:mX b':=by
         unfold wJ at hby;split at hby
         ·exact ihy _ _ hby
         ·cases hby;exact z
        have:=cwJ i kx j hr;simp only[sH,dJ] at a;exact⟨this.1,a.1,this.2.1,a.2.1,this.2.2,a.2.2⟩
    ·cases h
end K.Ds
namespace K
open Go.RowKit K.Ds
def chn (e:Int):List PanicEntry:=[{ v:=.iface 222 (.agg #[int i64 e]),recovered:=false }]
theorem bF (e:Int)(w:World):Calls prog 110 #[.bool true,int i64 e] w fun x w'=>x=.returned (.tuple #[])/\w' = w:=by
 go_enter func110,ntmps110;go_wp2;go_end0;exact⟨rfl,rfl⟩
theorem qU (e:Int)(w:World):Calls prog 110 #[.bool false,int i64 e] w fun x w'=>x=.panicked (chn e)/\w' = w:=by
 go_enter func110,ntmps110;go_wp2;exact⟨rfl,rfl,rfl⟩
theorem a1X (w:World):Calls prog 89 #[int i64 0] w fun x w'=>x=.returned (.tuple #[])/\w' = w:=by
 go_enter func89,ntmps89;go_wp2_with fail;refine(bF 0 w).mono ?_;rintro e a ⟨rfl,rfl⟩;go_wp2;go_end0;exact⟨rfl,rfl⟩
theorem a1Z (e:Int)(a:e≠0)(w:World):Calls prog 89 #[int i64 e] w fun x w'=>x=.panicked (chn e)/\w' = w:=by
 have g:(e == 0)=false:=by simpa using a
 go_enter func89,ntmps89;go_wp2_with fail;refine(qU e w).mono ?_;rintro x h ⟨rfl,rfl⟩;go_wp2;exact⟨rfl,rfl,rfl⟩
theorem uW (v:Value)(w:World):(Instr.typeAssert (.iface 222 v) 20 222 true).run prog w=.ok (.tuple #[v,.bool true]) w:=by
 simp[Instr.typeAssert,run_underlying underlying222]
theorem aW (v:Value)(w:World):(binOp .eql 20 (.iface 222 v) .nilIface).run prog w=.ok (.bool false) w:=by
 have h:∀ d:Nat,(Op.equalIn (d+1) 20 (.iface 222 v) .nilIface).run prog w=.ok false w:=fun d=>by simp[Op.equalIn,run_underlying underlying20]
 simp only[binOp];simp[Op.equal,Op.maxDepth,h 9999]
theorem hmf:∀ (fn:Fn) (first cap:Array Value) (w:World),(Instr.makeFunc fn first cap).run prog w=.ok (.func fn first cap) w:=fun _ _ _ _=>rfl
structure Cl (w:World) (b k:Nat) (v:Value):Prop where
 c:w.cell? ⟨b,k,none⟩=some v
 f:w.frozen? ⟨b,k,none⟩=false
 lt:b<w.heap.size
theorem Cl.at (h:Cl w b k v)(a:xQ w w'):Cl w' b k v :=
 ⟨(a.cell (p:=⟨b,k,none⟩) h.lt).trans h.c,(a.frozen (p:=⟨b,k,none⟩) h.lt).trans h.f,lQ h.lt a.size⟩
theorem Cl.new (cs:Array Value)(t:TypeId)(k:Nat)(x:Value)(a:N=w.heap.size)(g:cs[k]? = some x):Cl (w.alloc (.cells cs t)) N k x :=
 ⟨nc cs t k x a g,nf cs t k a,by subst a;simp⟩
theorem Cl.set (h:Cl w b k v)(u:Value):Cl (w.setCell ⟨b,k,none⟩ u) b k u :=
 ⟨uU h.c,eJ.trans h.f,by simpa using h.lt⟩
theorem Cl.oth {b' k':Nat}(h:Cl w b k v)(a:b'≠b\/k'≠k)(u:Value):Cl (w.setCell ⟨b',k',none⟩ u) b k v :=
 ⟨(jX (by intro e;simp only[dD] at e;omega)).trans h.c,eJ.trans h.f,by simpa using h.lt⟩
theorem cxQ (p:Nat)(x:Value)(e:Int)(w:World)(hc:Cl w p 0 x) :
  CallsD prog 156 #[.pointer (some ⟨p,0,none⟩)] (.panicking (chn e)) w fun r u' w' =>
   r=.returned (.tuple #[])/\u' = .panicking [{ v:=.iface 222 (.agg #[int i64 e]),recovered:=true }]/\w' = (w.alloc (.cells #[int i64 e] 222)).setCell ⟨p,0,none⟩ (int i64 e):=by
 refine jS func156 rfl fun c₀ cs hu=>?_;apply wpS_seq;apply wpS_region;simp[wpOpsS,go_sem,recoverD,hu,chn,ntmps156,Exit.thenS];refine wpS_of_wp ?_;change Code.wp prog _ _ { tmps:=#[.pointer (some ⟨p,0,none⟩),undef,undef,undef,.iface 222 (.agg #[int i64 e]),undef,undef,undef,undef,undef,undef,undef],defers:=[] } w;have ha:=uW;have h:=aW;have a:=(hc.at (ba w (.cells #[int i64 e] 222))).f;have g:=(hc.at (ba w (.cells #[int i64 e] 222))).c;go_wp2;exact⟨rfl,_,rfl,_,dN rfl _ _ _,rfl,rfl,rfl⟩
theorem cxX (p:Addr)(w:World) :
  CallsD prog 156 #[.pointer (some p)] .returning w fun r u' w'=>r=.returned (.tuple #[])/\u' = .returning/\w' = w:=by
 refine jS func156 rfl fun c₀ cs hu=>?_;apply wpS_seq;apply wpS_region;simp[wpOpsS,go_sem,recoverD,hu,ntmps156,Exit.thenS];refine wpS_of_wp ?_;change Code.wp prog _ _ { tmps:=#[.pointer (some p),undef,undef,undef,.nilIface,undef,undef,undef,undef,undef,undef,undef],defers:=[] } w;go_wp2;exact⟨rfl,.returning,by rw[<-hu],_,dN rfl _ _ _,rfl,rfl,rfl⟩
theorem cxZ (g:Array Value)(b1 b2 h:Int)(w:World)(l:∀ W,xQ w W->w.heap.size+2<=W.heap.size->Calls prog 96 g W fun x w'=>x=.returned (.agg #[int i64 b1,int i64 b2,int i64 h])/\xQ W w') :
  Calls prog 95 #[.func (.func 96) #[] g] w fun e w'=>e=.returned (.tuple #[.agg #[int i64 b1,int i64 b2,int i64 h],int i64 0])/\xQ w w':=by
 have hmf:=hmf;go_enter_defers func95,ntmps95;have k:=l ((w.alloc (.cells #[int i64 0,int i64 0,int i64 0] 131)).alloc (.cells #[int i64 0] 34)) (bal (ba _ _) _) (by simp);go_wp2_with fail;refine k.mono ?_;rintro e m ⟨rfl,a⟩;have a0:=((Cl.new (w:=w) #[int i64 0,int i64 0,int i64 0] 131 0 _ rfl rfl).at (ba _ (.cells #[int i64 0] 34))).at a;have a1:=((Cl.new (w:=w) #[int i64 0,int i64 0,int i64 0] 131 1 _ rfl rfl).at (ba _ (.cells #[int i64 0] 34))).at a;have a2:=((Cl.new (w:=w) #[int i64 0,int i64 0,int i64 0] 131 2 _ rfl rfl).at (ba _ (.cells #[int i64 0] 34))).at a;have a3:=(Cl.new (w:=w.alloc (.cells #[int i64 0,int i64 0,int i64 0] 131)) (N:=w.heap.size+1) #[int i64 0] 34 0 _ (by simp) rfl).at a;have i:xQ w m:=bt (bal (ba _ _) _) a;have t0:=a0.c;have p:=a0.f;have t1:=a1.c;have s1:=a1.f;have t2:=a2.c;have s2:=a2.f;have t3:=a3.c;have s3:=a3.f;clear a k l;go_wp2;refine vS (f:=156) (args:=#[.pointer (some ⟨w.heap.size+1,0,none⟩)]) (by simp) (by simp[go_sem]) ?_;refine(cxX _ _).mono ?_;rintro e v o ⟨rfl,rfl,rfl⟩;have j:xQ w ((((m.setCell ⟨w.heap.size,0,none⟩ (int i64 b1)).setCell ⟨w.heap.size,1,none⟩ (int i64 b2)).setCell ⟨w.heap.size,2,none⟩ (int i64 h)).setCell ⟨w.heap.size+1,0,none⟩ (int i64 0)):=bs (bs (bs (bs i (vQ _) _) (vQ _) _) (vQ _) _) (Nat.le_succ _) _;simp[Leaves,settle,results,results95,go_sem,t0,t1,t2,t3];exact j
theorem cxJ (g:Array Value)(er:Int)(w:World)(k:∀ W,xQ w W->w.heap.size+2<=W.heap.size->Calls prog 96 g W fun x w'=>x=.panicked (chn er)/\xQ W w') :
  Calls prog 95 #[.func (.func 96) #[] g] w fun e w'=>e=.returned (.tuple #[.agg #[int i64 0,int i64 0,int i64 0],int i64 er])/\xQ w w':=by
 have hmf:=hmf;go_enter_defers func95,ntmps95;have j:=k ((w.alloc (.cells #[int i64 0,int i64 0,int i64 0] 131)).alloc (.cells #[int i64 0] 34)) (bal (ba _ _) _) (by simp);go_wp2_with fail;refine j.mono ?_;rintro e l ⟨rfl,a⟩;have a0:=((Cl.new (w:=w) #[int i64 0,int i64 0,int i64 0] 131 0 _ rfl rfl).at (ba _ (.cells #[int i64 0] 34))).at a;have a1:=((Cl.new (w:=w) #[int i64 0,int i64 0,int i64 0] 131 1 _ rfl rfl).at (ba _ (.cells #[int i64 0] 34))).at a;have a2:=((Cl.new (w:=w) #[int i64 0,int i64 0,int i64 0] 131 2 _ rfl rfl).at (ba _ (.cells #[int i64 0] 34))).at a;have a3:=(Cl.new (w:=w.alloc (.cells #[int i64 0,int i64 0,int i64 0] 131)) (N:=w.heap.size+1) #[int i64 0] 34 0 _ (by simp) rfl).at a;have h:xQ w l:=bt (bal (ba _ _) _) a;clear a j k;go_wp2;refine vS (f:=156) (args:=#[.pointer (some ⟨w.heap.size+1,0,none⟩)]) (by simp) (by simp[go_sem]) ?_;refine(cxQ _ _ _ _ a3).mono ?_;rintro e v p ⟨rfl,rfl,rfl⟩;have i:xQ w ((l.alloc (.cells #[int i64 er] 222)).setCell ⟨w.heap.size+1,0,none⟩ (int i64 er)):=bs (bal h _) (Nat.le_succ _) _;have r0:=(a0.at (ba _ (.cells #[int i64 er] 222))).c;have r1:=(a1.at (ba _ (.cells #[int i64 er] 222))).c;have m:=(a2.at (ba _ (.cells #[int i64 er] 222))).c;have o:=(a3.at (ba _ (.cells #[int i64 er] 222))).c;simp[Leaves,settle,results,results95,go_sem,r0,r1,m,o];exact i
theorem cyQ (p:Nat)(x:Value)(e:Int)(w:World)(hc:Cl w p 0 x) :
  CallsD prog 138 #[.pointer (some ⟨p,0,none⟩)] (.panicking (chn e)) w fun r u' w' =>
   r=.returned (.tuple #[])/\u' = .panicking [{ v:=.iface 222 (.agg #[int i64 e]),recovered:=true }]/\w' = (w.alloc (.cells #[int i64 e] 222)).setCell ⟨p,0,none⟩ (int i64 e):=by
 refine jS func138 rfl fun c₀ cs hu=>?_;apply wpS_seq;apply wpS_region;simp[wpOpsS,go_sem,recoverD,hu,chn,ntmps138,Exit.thenS];refine wpS_of_wp ?_;change Code.wp prog _ _ { tmps:=#[.pointer (some ⟨p,0,none⟩),undef,undef,undef,.iface 222 (.agg #[int i64 e]),undef,undef,undef,undef,undef,undef,undef],defers:=[] } w;have ha:=uW;have h:=aW;have a:=(hc.at (ba w (.cells #[int i64 e] 222))).f;have g:=(hc.at (ba w (.cells #[int i64 e] 222))).c;go_wp2;exact⟨rfl,_,rfl,_,dN rfl _ _ _,rfl,rfl,rfl⟩
theorem cyX (p:Addr)(w:World) :
  CallsD prog 138 #[.pointer (some p)] .returning w fun r u' w'=>r=.returned (.tuple #[])/\u' = .returning/\w' = w:=by
 refine jS func138 rfl fun c₀ cs hu=>?_;apply wpS_seq;apply wpS_region;simp[wpOpsS,go_sem,recoverD,hu,ntmps138,Exit.thenS];refine wpS_of_wp ?_;change Code.wp prog _ _ { tmps:=#[.pointer (some p),undef,undef,undef,.nilIface,undef,undef,undef,undef,undef,undef,undef],defers:=[] } w;go_wp2;exact⟨rfl,.returning,by rw[<-hu],_,dN rfl _ _ _,rfl,rfl,rfl⟩
theorem cyZ (a:Array Value)(Q:Value->World->Prop)(w:World)(k:∀ W,xQ w W->w.heap.size+1<=W.heap.size->Calls prog 88 a W fun x w'=>∃ V,x=.returned V/\Q V w'/\xQ W w') :
  Calls prog 87 #[.func (.func 88) #[] a] w fun e w'=>∃ V h,e=.returned (.tuple #[V,int i64 0])/\Q V h/\xQ w h/\w' = h.setCell ⟨w.heap.size,0,none⟩ (int i64 0):=by
 have hmf:=hmf;go_enter_defers func87,ntmps87;have j:=k (w.alloc (.cells #[int i64 0] 34)) (ba _ _) (by simp);go_wp2_with fail;refine j.mono ?_;rintro e h ⟨V,rfl,l,g⟩;have a0:=(Cl.new (w:=w) #[int i64 0] 34 0 _ rfl rfl).at g;have i:xQ w h:=bt (ba _ _) g;have t0:=a0.c;have o:=a0.f;clear g j k;go_wp2;refine vS (f:=138) (args:=#[.pointer (some ⟨w.heap.size,0,none⟩)]) (by simp) (by simp[go_sem]) ?_;refine(cyX _ _).mono ?_;rintro e p m ⟨rfl,rfl,rfl⟩;simp[Leaves,settle,results,results87,go_sem,t0];exact⟨_,l,i,rfl⟩
theorem cyJ (a:Array Value)(er:Int)(w:World)(k:∀ W,xQ w W->w.heap.size+1<=W.heap.size->Calls prog 88 a W fun x w'=>x=.panicked (chn er)/\xQ W w') :
  Calls prog 87 #[.func (.func 88) #[] a] w fun e w'=>e=.returned (.tuple #[.slice none 0 0,int i64 er])/\xQ w w':=by
 have hmf:=hmf;go_enter_defers func87,ntmps87;have j:=k (w.alloc (.cells #[int i64 0] 34)) (ba _ _) (by simp);go_wp2_with fail;refine j.mono ?_;rintro e l ⟨rfl,g⟩;have a0:=(Cl.new (w:=w) #[int i64 0] 34 0 _ rfl rfl).at g;have h:xQ w l:=bt (ba _ _) g;clear g j k;go_wp2;refine vS (f:=138) (args:=#[.pointer (some ⟨w.heap.size,0,none⟩)]) (by simp) (by simp[go_sem]) ?_;refine(cyQ _ _ _ _ a0).mono ?_;rintro e o m ⟨rfl,rfl,rfl⟩;have i:xQ w ((l.alloc (.cells #[int i64 er] 222)).setCell ⟨w.heap.size,0,none⟩ (int i64 er)):=bs (bal h _) (vQ _) _;have r0:=(a0.at (ba _ (.cells #[int i64 er] 222))).c;simp[Leaves,settle,results,results87,go_sem,r0];exact i
theorem sU {b c:World}(h:a.grownBy b r)(k:b.grownBy c r):a.grownBy c r :=
 ⟨k.os.trans h.os,k.tape.trans h.tape,k.output.trans h.output,bQ h.size k.size,fun i hi hr=>(k.block i (lQ hi h.size) hr).trans (h.block i hi hr)⟩
theorem kV {b:World}(h:a.grownBy b r):a.grownBy b.drew r:=⟨h.os,h.tape,h.output,h.size,h.block⟩
theorem aX {b:World}(h:a.grownBy b (some E))(k:Nat)(u:Value):a.grownBy (b.setCell ⟨E,k,none⟩ u) (some E) :=
 sU h ⟨rfl,rfl,rfl,by simp[World.setCell],fun i _ hr=>fO _ _ _ _ (by intro e;exact hr (by rw[e]))⟩
theorem yF {b:World}(h:a.grownBy b (some E))(hB:B<=E)(g:B<=a.heap.size):Below B a b:=⟨h.os,h.tape,h.output,h.size,fun k hk=>h.block k (by omega) (by simp;omega)⟩
theorem deQ (w:World)(B:Nat):kQ w B (.slice none 0 0) []:=⟨none,0,rfl,vQ _,by simp,by simp,fun h=>absurd rfl h⟩
def tW (P:Nat->Prop) (v:Value):Prop:=∀ b o n c,v=.slice (some ⟨b,o,none⟩) n c->P b
def deX (P:Nat->Prop) (v:Value) (ts:List Rw):Prop:=tW P v/\∀ t∈ts,tW P t.1
theorem bqQ (g:Nat)(a h:ByteArray)(s1:Int)(w:World)(j:g<w.heap.size)(hc:w.cell? ⟨g,0,none⟩=some (.string h))(r:Bool)(i:decide (a=h)=r) :
  Calls prog 161 #[.agg #[.string a,int i64 s1],.pointer (some ⟨g,0,none⟩)] w (iQ w (.bool r)):=by
 have k:(a.toList == h.toList)=r:=(wG _ _).trans i;clear i;go_enter func161,ntmps161;go_wp2;go_ret;exact⟨rfl,ba _ _⟩
def eF (l:List aQ) (s:ByteArray):Int:=match fnd l s with|some i=>i|none=>-1
theorem zI {l:List aQ}(h:fnd l s=some i):eF l s=i:=by rw[eF,h]
theorem lM {l:List aQ}(h:fnd l s=none):eF l s = -1:=by rw[eF,h]
theorem bqX (B g:Nat)(v:Value)(l:List aQ)(k:ByteArray)(w:World)(hB:B<=w.heap.size)(L:kQ w B v l)(J:g<w.heap.size)(A:w.cell? ⟨g,0,none⟩=some (.string k))(r:Int)(M:eF l k=r) :
  Calls prog 128 #[v,.func (.func 161) #[] #[.pointer (some ⟨g,0,none⟩)]] w (iQ w (int i64 r)):=by
 have N:=qQ L;have H:=qQ M;have E:=qQ A;obtain⟨a,c,rfl,hc,Q⟩:=L.slice;clear M A;go_enter func128,ntmps128;go_wp2
 go_loopw [8] (fun s wr=>∃ (i:Nat),s=int i64 (i:Int)/\i<=l.length/\Hid (cM l k i)/\xQ w wr) (fun s _=>l.length - (intOf s).toNat)
 case atStart=>exact⟨0,rfl,dQ _,fun j c hj=>by omega,uQ _ _⟩
 case round =>
  obtain⟨i,rfl,hi,F,h⟩:=hrel;by_cases I:i<l.length
  ·obtain⟨b,o,nm,sz,rfl,P,D,c1,c2,R⟩:=N.out.get hB h I
   have G:=qQ D;clear D;have C:g<wr.heap.size:=lQ J h.size;have y:=qQ ((h.cell (p:=⟨g,0,none⟩) J).trans E.out);cases he:decide (nm=k) with
   | true =>
    have z:=qQ he;clear he;obtain rfl:(i:Int)=r:=by rw[<-H.out];exact(zI (a0Q F.out G.out (tD z.out))).symm
    go_wp2_with fail;refine(bqQ g nm k sz _ C y.out true z.out).mono ?_;rintro e O ⟨rfl,m⟩;go_wp2;go_ret;exact⟨rfl,bt h m⟩
   | false =>
    have z:=qQ he;clear he;go_wp2_with fail;refine(bqQ g nm k sz _ C y.out false z.out).mono ?_;rintro e O ⟨rfl,m⟩;go_wp2
    go_roundw
    case rel=>exact⟨i+1,by go_num,I,F.out.next G.out (tL z.out),bt h m⟩
    case measure=>simp[intOf];omega
  ·obtain rfl:-1=r:=by rw[<-H.out];exact(lM (a0X (by have:=F.out;rwa [show i=l.length by omega] at this))).symm
   go_wp2;go_ret;exact⟨rfl,h⟩
theorem uO (B:Nat)(v:Value)(l:List aQ)(s:ByteArray)(w:World)(hB:B<=w.heap.size)(h:kQ w B v l)(i:Nat)(j:fnd l s=some i) :
  Calls prog 108 #[v,.string s] w (iQ w (int i64 (i:Int))):=by
 have o:=qQ (zI j);have k:=bqX B w.heap.size v l s (w.alloc (.cells #[.string s] 9)) (by simp;omega) (h.at hB (ba _ _)) (by simp) (nc _ _ 0 _ rfl rfl) _ o.out;clear h j;have hmf:=hmf;go_enter func108,ntmps108;go_wp2_with fail;refine k.mono ?_;rintro e m ⟨rfl,a⟩;clear k;have g:xQ w m:=bt (ba _ _) a;clear a;go_wp2_with fail;refine(bF 7 m).mono ?_;rintro e p ⟨rfl,rfl⟩;go_wp2;go_ret;exact⟨rfl,g⟩
theorem yB (B:Nat)(v:Value)(l:List aQ)(s:ByteArray)(w:World)(hB:B<=w.heap.size)(h:kQ w B v l)(i:fnd l s=none) :
  Calls prog 108 #[v,.string s] w fun e w'=>e=.panicked (chn 7)/\xQ w w':=by
 have m:=qQ (lM i);have j:=bqX B w.heap.size v l s (w.alloc (.cells #[.string s] 9)) (by simp;omega) (h.at hB (ba _ _)) (by simp) (nc _ _ 0 _ rfl rfl) _ m.out;clear h i;have hmf:=hmf;go_enter func108,ntmps108;go_wp2_with fail;refine j.mono ?_;rintro e k ⟨rfl,a⟩;clear j;have g:xQ w k:=bt (ba _ _) a;clear a;go_wp2_with fail;refine(qU 7 k).mono ?_;rintro e o ⟨rfl,rfl⟩;go_wp2;exact⟨rfl,rfl,g⟩
theorem dyX (k:Int)(w:World)(n:Int)(z:0<=n)(a:tQ k=n):Calls prog 139 #[int i64 k] w fun e w'=>e=.returned (int i64 n)/\w' = w:=by
 unfold tQ at a;go_enter func139,ntmps139;by_cases h:k=1
 ·subst h;subst a;go_wp2;go_ret;exact⟨rfl,rfl⟩
 by_cases i:k=2
 ·subst i;subst a;go_wp2;go_ret;exact⟨rfl,rfl⟩
 by_cases j:k=3
 ·subst j;subst a;go_wp2;go_ret;exact⟨rfl,rfl⟩
 by_cases l:k=4
 ·subst l;subst a;go_wp2;go_ret;exact⟨rfl,rfl⟩
 by_cases m:k=5
 ·subst m;subst a;go_wp2;go_ret;exact⟨rfl,rfl⟩
 by_cases o:k=6
 ·subst o;subst a;go_wp2;go_ret;exact⟨rfl,rfl⟩
 by_cases p:k=7
 ·subst p;subst a;go_wp2;go_ret;exact⟨rfl,rfl⟩
 by_cases v:k=8
 ·subst v;subst a;go_wp2;go_ret;exact⟨rfl,rfl⟩
 by_cases y:k=9
 ·subst y;subst a;go_wp2;go_ret;exact⟨rfl,rfl⟩
 by_cases g:k=10
 ·subst g;subst a;go_wp2;go_ret;exact⟨rfl,rfl⟩
 exfalso;simp[h,i,j,l,m,o,p,v,y,g] at a;omega
theorem dyZ (k:Int)(w:World)(a:tQ k<0):Calls prog 139 #[int i64 k] w fun e w'=>e=.panicked (chn 1)/\w' = w:=by
 have h:(k == 1)=false:=by rw[yU];rintro rfl;simp[tQ] at a
 have g2:(k == 2)=false:=by rw[yU];rintro rfl;simp[tQ] at a
 have i:(k == 3)=false:=by rw[yU];rintro rfl;simp[tQ] at a
 have j:(k == 4)=false:=by rw[yU];rintro rfl;simp[tQ] at a
 have l:(k == 5)=false:=by rw[yU];rintro rfl;simp[tQ] at a
 have m:(k == 6)=false:=by rw[yU];rintro rfl;simp[tQ] at a
 have o:(k == 7)=false:=by rw[yU];rintro rfl;simp[tQ] at a
 have p:(k == 8)=false:=by rw[yU];rintro rfl;simp[tQ] at a
 have v:(k == 9)=false:=by rw[yU];rintro rfl;simp[tQ] at a
 have g:(k == 10)=false:=by rw[yU];rintro rfl;simp[tQ] at a
 clear a;go_enter func139,ntmps139;go_wp2;exact⟨rfl,rfl,rfl⟩
theorem aaX (lo hi:Int)(w:World)(h:wZ lo hi=true):Calls prog 180 #[int i64 lo,int i64 hi] w fun e w'=>e=.returned (int i64 (spn lo hi))/\w' = w:=by
 simp only[wZ,dJ] at h;obtain⟨a,g,i⟩:=h;go_enter func180,ntmps180;go_wp2_with fail;refine(bF 3 w).mono ?_;rintro e j ⟨rfl,rfl⟩;go_wp2
 ·go_ret
  exact⟨by rw[spn,jQ (by omega)];rfl,rfl⟩
 ·go_ret
  exact⟨by rw[show spn lo hi = -lo by unfold spn;split <;> omega];rfl,rfl⟩
theorem aaZ (lo hi:Int)(w:World)(h:wZ lo hi=false):Calls prog 180 #[int i64 lo,int i64 hi] w fun e w'=>e=.panicked (chn 3)/\w' = w:=by
 simp only[wZ,decide_eq_false_iff_not] at h;go_enter func180,ntmps180;by_cases i:-1048576<=lo
 ·by_cases j:lo<=hi
  ·have a:¬ hi<=1048576:=fun a=>h ⟨i,j,a⟩
   go_wp2_with fail;refine(qU 3 w).mono ?_;rintro e g ⟨rfl,rfl⟩;go_wp2;exact⟨rfl,rfl,rfl⟩
  ·go_wp2_with fail
   refine(qU 3 w).mono ?_;rintro e g ⟨rfl,rfl⟩;go_wp2;exact⟨rfl,rfl,rfl⟩
 ·go_wp2_with fail
  refine(qU 3 w).mono ?_;rintro e g ⟨rfl,rfl⟩;go_wp2;exact⟨rfl,rfl,rfl⟩
def qZ (w:World) (B:Nat) (v:Value) (l:List cX):Prop :=
 ∃ a c,v=.slice a l.length c/\l.length<=c/\l.length<=9223372036854775807/\(∀ x∈l,x.1.size<=9223372036854775807) /\
  (l≠[]->∃ b o,a=some ⟨b,o,none⟩/\b<B/\∀ i x,l[i]? = some x->w.cell? ⟨b,o+i*3,none⟩=some (.string x.1)/\w.cell? ⟨b,o+i*3+1,none⟩=some (int i64 x.2.1)/\w.cell? ⟨b,o+i*3+2,none⟩=some (int i64 x.2.2))
theorem qZ.keep {l:List cX}(h:qZ w B v l)(j:Below B w w'):qZ w' B v l:=by
 obtain⟨a,c,y,hc,k,m,z⟩:=h;refine⟨a,c,y,hc,k,m,fun hne=>?_⟩;obtain⟨b,o,ha,hB,g⟩:=z hne;exact⟨b,o,ha,hB,fun i x hi=>⟨(j.cell (p:=⟨b,o+i*3,none⟩) hB).trans (g i x hi).1,(j.cell (p:=⟨b,o+i*3+1,none⟩) hB).trans (g i x hi).2.1,(j.cell (p:=⟨b,o+i*3+2,none⟩) hB).trans (g i x hi).2.2⟩⟩
theorem qZ.at {l:List cX}(h:qZ w B v l)(hB:B<=w.heap.size)(a:xQ w w'):qZ w' B v l:=h.keep (a.mono hB)
theorem qZ.mono {l:List cX}(h:qZ w B v l)(hB:B<=B'):qZ w B' v l:=by
 obtain⟨a,c,k,hc,i,j,m⟩:=h;refine⟨a,c,k,hc,i,j,fun hne=>?_⟩;obtain⟨b,o,ha,p,g⟩:=m hne;exact⟨b,o,ha,by omega,g⟩
theorem qZ.slice {l:List cX}(h:qZ w B v l):∃ a c,v=.slice a l.length c/\l.length<=c/\l.length<=9223372036854775807:=by
 obtain⟨a,c,i,hc,g,_⟩:=h;exact⟨a,c,i,hc,g⟩
theorem qZ.get {a:Option Addr}{c:Nat}{l:List cX}(h:qZ w B (.slice a n c) l)(hB:B<=w.heap.size)(p:xQ w wr)(hi:i<l.length) :
  ∃ b o nm d z,a=some ⟨b,o,none⟩/\b<B/\l[i]? = some (nm,d,z)/\wr.cell? ⟨b,o+i*3,none⟩=some (.string nm)/\wr.cell? ⟨b,o+i*3+1,none⟩=some (int i64 d)/\wr.cell? ⟨b,o+i*3+2,none⟩=some (int i64 z)/\nm.size<=9223372036854775807:=by
 obtain⟨y,A,m,_,_,v,j⟩:=h.at hB p;simp only[yZ] at m;obtain⟨rfl,rfl,rfl⟩:=m;obtain⟨b,o,rfl,k,g⟩:=j (ne_of_lt hi);obtain⟨⟨nm,d,z⟩,j⟩:=fX hi;exact⟨b,o,nm,d,z,rfl,k,j,(g i _ j).1,(g i _ j).2.1,(g i _ j).2.2,v _ (qX j)⟩
def rJ (w:World) (b o:Nat) (v0 v1 v2 v3 v4 v5:Value):Prop :=
 w.cell? ⟨b,o,none⟩=some v0/\w.cell? ⟨b,o+1,none⟩=some v1/\w.cell? ⟨b,o+2,none⟩=some v2/\w.cell? ⟨b,o+3,none⟩=some v3/\w.cell? ⟨b,o+4,none⟩=some v4/\w.cell? ⟨b,o+5,none⟩=some v5
theorem rJ.keep {o:Nat}(h:rJ w b o v0 v1 v2 v3 v4 v5)(a:Below B w w')(hB:b<B):rJ w' b o v0 v1 v2 v3 v4 v5 :=
 ⟨(a.cell (p:=⟨b,o,none⟩) hB).trans h.1,(a.cell (p:=⟨b,o+1,none⟩) hB).trans h.2.1,(a.cell (p:=⟨b,o+2,none⟩) hB).trans h.2.2.1,(a.cell (p:=⟨b,o+3,none⟩) hB).trans h.2.2.2.1,(a.cell (p:=⟨b,o+4,none⟩) hB).trans h.2.2.2.2.1,(a.cell (p:=⟨b,o+5,none⟩) hB).trans h.2.2.2.2.2⟩
def Qm (w:World) (B:Nat):Qu->Value->Value->Value->Value->Value->Value->Prop
 | .none,_,_,_,_,_,_=>False
 | .node k c lo hi wh n x y,v0,v1,v2,v3,v4,v5 =>
  (v0=int i64 k/\v1=.string c/\v2=int i64 lo/\v3=int i64 hi/\c.size<=9223372036854775807/\qZ w B v4 wh/\∃ a cap,v5=.slice a n cap/\n<=cap/\n<=9223372036854775807 /\
   (1<=n->n<=2->∃ b o,a=some ⟨b,o,none⟩/\b<B/\(∃ u0 u1 u2 u3 u4 u5,rJ w b o u0 u1 u2 u3 u4 u5/\Qm w B x u0 u1 u2 u3 u4 u5) /\
    (2<=n->∃ u0 u1 u2 u3 u4 u5,rJ w b (o+6) u0 u1 u2 u3 u4 u5/\Qm w B y u0 u1 u2 u3 u4 u5)))
theorem Qm.keep (j:Below B w w')(q:Qu):∀ {v0 v1 v2 v3 v4 v5:Value},Qm w B q v0 v1 v2 v3 v4 v5->Qm w' B q v0 v1 v2 v3 v4 v5:=by
 induction q with
 | none=>intro v0 v1 v2 v3 v4 v5 h;exact h
 | node k c lo hi wh n x y ihx ihy =>
  rintro v0 v1 v2 v3 v4 v5 ⟨p,v,i,z,hc,F,a,cap,A,E,D,C⟩;refine⟨p,v,i,z,hc,F.keep j,a,cap,A,E,D,fun g1 g2=>?_⟩;obtain⟨b,o,ha,hB,⟨u0,u1,u2,u3,u4,u5,m,l⟩,i⟩:=C g1 g2;refine⟨b,o,ha,hB,⟨u0,u1,u2,u3,u4,u5,m.keep j hB,ihx l⟩,fun g=>?_⟩;obtain⟨u0,u1,u2,u3,u4,u5,m,l⟩:=i g;exact⟨u0,u1,u2,u3,u4,u5,m.keep j hB,ihy l⟩
theorem Qm.at {q:Qu}(h:Qm w B q v0 v1 v2 v3 v4 v5)(hB:B<=w.heap.size)(a:xQ w w'):Qm w' B q v0 v1 v2 v3 v4 v5:=Qm.keep (a.mono hB) q h
def dV (d z v:Int):Bool:=if d=1 then v == z else if d=2 then decide (v<z) else if d=3 then decide (v<=z) else if d=4 then decide (z<v) else if d=5 then decide (z<=v) else !(v == z)
abbrev lG (d:Int) (p:Nat):Value:=.func (.func (219+d.toNat)) #[] #[.pointer (some ⟨p,0,none⟩)]
theorem dyJ (d z:Int)(w:World)(k:fY d=true) :
  Calls prog 202 #[int i64 d,int i64 z] w fun e w'=>e=.returned (lG d w.heap.size)/\w' = w.alloc (.cells #[int i64 z] 3):=by
 have hmf:=hmf;simp only[fY,dJ] at k;go_enter func202,ntmps202;by_cases a:d=1
 ·subst a;go_wp2;go_ret;exact⟨rfl,rfl⟩
 by_cases g:d=2
 ·subst g;go_wp2;go_ret;exact⟨rfl,rfl⟩
 by_cases h:d=3
 ·subst h;go_wp2;go_ret;exact⟨rfl,rfl⟩
 by_cases i:d=4
 ·subst i;go_wp2;go_ret;exact⟨rfl,rfl⟩
 by_cases j:d=5
 ·subst j;go_wp2;go_ret;exact⟨rfl,rfl⟩
 obtain rfl:d=6:=by omega
 go_wp2;go_ret;exact⟨rfl,rfl⟩
theorem dzQ (d z:Int)(w:World)(a:fY d=false) :
  Calls prog 202 #[int i64 d,int i64 z] w fun e w'=>e=.panicked (chn 1)/\xQ w w':=by
 have g:(d == 1)=false:=by rw[yU];rintro rfl;simp[fY] at a
 have g2:(d == 2)=false:=by rw[yU];rintro rfl;simp[fY] at a
 have h:(d == 3)=false:=by rw[yU];rintro rfl;simp[fY] at a
 have i:(d == 4)=false:=by rw[yU];rintro rfl;simp[fY] at a
 have j:(d == 5)=false:=by rw[yU];rintro rfl;simp[fY] at a
 have k:(d == 6)=false:=by rw[yU];rintro rfl;simp[fY] at a
 clear a;go_enter func202,ntmps202;go_wp2;exact⟨rfl,rfl,ba _ _⟩
theorem aO (d z v:Int)(p:Nat)(w:World)(k:fY d=true)(hc:w.cell? ⟨p,0,none⟩=some (int i64 z)) :
  Calls prog (219+d.toNat) #[int i64 v,.pointer (some ⟨p,0,none⟩)] w fun e w'=>e=.returned (.bool (dV d z v))/\w' = w:=by
 simp only[fY,dJ] at k;by_cases a:d=1
 ·subst a;go_enter func220,ntmps220;go_wp2;go_ret;exact⟨rfl,rfl⟩
 by_cases g:d=2
 ·subst g;go_enter func221,ntmps221;go_wp2;go_ret;exact⟨rfl,rfl⟩
 by_cases h:d=3
 ·subst h;go_enter func222,ntmps222;go_wp2;go_ret;exact⟨rfl,rfl⟩
 by_cases i:d=4
 ·subst i;go_enter func223,ntmps223;go_wp2;go_ret;exact⟨rfl,rfl⟩
 by_cases j:d=5
 ·subst j;go_enter func224,ntmps224;go_wp2;go_ret;exact⟨rfl,rfl⟩
 obtain rfl:d=6:=by omega
 go_enter func225,ntmps225;go_wp2;go_ret;exact⟨rfl,rfl⟩
theorem Boxed.at (h:Boxed w b t v)(a:xQ w w'):Boxed w' b t v:=(a.block b h.lt).trans h
def gF (w:World) (V:Value) (e:Nat × Int × Int):Prop :=
 ∃ h i p,V=.func (.func 203) #[] #[.pointer (some ⟨h,0,none⟩),.pointer (some ⟨i,0,none⟩)]/\Boxed w h 195 (lG e.2.1 p)/\Boxed w i 3 (int i64 (e.1:Int))/\Boxed w p 3 (int i64 e.2.2)
theorem gF.at (h:gF w V e)(a:xQ w w'):gF w' V e:=by
 obtain⟨h,i,p,e,g,j,k⟩:=h;exact⟨h,i,p,e,Boxed.at g a,Boxed.at j a,Boxed.at k a⟩
def zK (w:World) (lo:Nat) (v:Value) (es:List (Value × Nat × Int × Int)):Prop :=
 w.ownsRow lo 239 1 v es.length (es.map (·.1))/\∀ e∈es,gF w e.1 e.2
theorem zK.at {lo:Nat}(h:zK w lo v es)(a:xQ w w'):zK w' lo v es :=
 ⟨dG h.1 a,fun e he=>(h.2 e he).at a⟩
theorem gF.grow {lo:Nat}(h:gF w V e)(g:w.ownsRow lo 239 1 v n xs)(a:w.grownBy w' v.ownBlock):gF w' V e:=by
 obtain⟨h,i,p,e,j,k,l⟩:=h;exact⟨h,i,p,e,j.kept a (j.not_row (by decide) g),k.kept a (k.not_row (by decide) g),l.kept a (l.not_row (by decide) g)⟩
theorem gF.setb {u:Value}(h:gF w V e)(k:Boxed w A 270 u):gF (w.setCell ⟨A,0,none⟩ v) V e:=by
 have ne:∀ {b:Nat} {t:TypeId} {x:Value},Boxed w b t x->t≠270->some b≠some A:=by
  intro b t x l m e;simp only[aZ] at e;subst e;have:=(show w.heap[b]? = _ from l).symm.trans (show w.heap[b]? = _ from k);simp at this;exact m this.2
 obtain⟨h,i,p,e,a,g,j⟩:=h;exact⟨h,i,p,e,a.kept (grownBy_setCell' _ _ _) (ne a (by decide)),g.kept (grownBy_setCell' _ _ _) (ne g (by decide)),j.kept (grownBy_setCell' _ _ _) (ne j (by decide))⟩
def trp (l:List aQ) (t:cX):Nat × Int × Int:=((fnd l t.1).getD 0,t.2.1,t.2.2)
def dzX (w:World) (ps:List (Nat × Int × Int)) (er:Int) (e:Ending) (w':World):Prop :=
 xQ w w'/\((er=0/\∃ A sv es,w.heap.size<=A/\e=.returned (.func (.func 204) #[] #[.pointer (some ⟨A,0,none⟩)])/\Boxed w' A 270 sv/\zK w' w.heap.size sv es/\es.map (·.2)=ps)\/(er≠0/\e=.panicked (chn er)))
theorem dzZ:(prog.info? 239).map (fun i=>(i.zero,i.size,i.bytes))=some (some .nilFunc,1,8):=by kernel_rfl
theorem bO (B:Nat)(lv v:Value)(l:List aQ)(C:List cX)(w:World)(hB:B<=w.heap.size)(hp:kQ w B lv l)(hq:qZ w B v C)(er:Int)(hr:pJ l C=er) :
  Calls prog 179 #[lv,v] w fun e w'=>dzX w (C.map (trp l)) er e w':=by
 have HP:=qQ hp;have HQ:=qQ hq;have HR:=qQ hr;obtain⟨a,c,rfl,hc,hl⟩:=hq.slice;obtain⟨a',c',rfl,cj,ck⟩:=hp.slice;obtain⟨i0,b3,b8,bb,bc⟩:=pZ dzZ;have hmf:=hmf;clear hr;go_enter func179,ntmps179;by_cases a8:64<C.length
 ·obtain rfl:4=er:=by rw[<-HR.out,pJ,jQ a8]
  have b5:¬ (C.length:Int)<=64:=by omega
  go_wp2_with fail;refine(qU 4 w).mono ?_;rintro e A ⟨rfl,rfl⟩;go_wp2;exact⟨rfl,uQ _ _,.inr ⟨by decide,rfl⟩⟩
 have aw:Hid (zD l C=er):=by have:=HR.out;rwa [pJ,zQ a8] at this
 have b5:(C.length:Int)<=64:=by omega
 go_wp2_with fail;refine(bF 4 w).mono ?_;rintro e A ⟨rfl,rfl⟩;go_wp2
 go_loopw [16] (fun s wr=>∃ (i:Nat),s=int i64 (i:Int)/\i<=C.length/\Hid (zD l (C.drop i)=er)/\xQ A wr /\
  ∃ sv h,Boxed wr A.heap.size 270 sv/\zK wr A.heap.size sv h/\h.map (·.2)=(C.take i).map (trp l)) (fun s _=>C.length - (intOf s).toNat)
 case atStart=>exact⟨0,rfl,dQ _,by simpa [Hid] using aw.out,ba _ _,.slice none 0 0,[],Boxed.new _ _ _,⟨⟨rfl,.inl ⟨rfl,rfl⟩⟩,fun e L=>by cases L⟩,by simp⟩
 case round =>
  obtain⟨i,rfl,hi,HI,E,sv,h,a9,X,aa⟩:=hrel;have a6:=qQ a9;have HT:=qQ X;have R:=qQ aa;have ae:=E.size;clear a9 aa;obtain⟨Y,Z,rfl⟩:=pI X.1;clear X;by_cases h1:i<C.length
  ·obtain⟨b,o,nm,d,z,rfl,hb,U,c1,c2,c3,hn⟩:=HQ.out.get hB E h1
   have HG:=qQ U;have S:Hid (zD l (C.drop i)=if (fnd l nm).isSome then (if fY d then zD l (C.drop (i+1)) else 1) else 7):=a0Z U;have G:kQ (wr.alloc (.cells #[.string nm,int i64 d,int i64 z] 241)) B (.slice a' l.length c') l:=(HP.out.at hB E).at (by omega) (ba _ _);clear U;cases hf:fnd l nm with
   | none =>
    obtain rfl:7=er:=by rw[<-HI.out,S.out,hf];rfl
    have k1:=yB B _ l nm _ (by simp;omega) G hf;clear hf G;go_wp2_with fail;refine k1.mono ?_;rintro e g ⟨rfl,H⟩;go_wp2;exact⟨rfl,bt (bal E _) H,.inr ⟨by decide,rfl⟩⟩
   | some p =>
    have k1:=uO B _ l nm _ (by simp;omega) G p hf;have HF:=qQ hf;clear hf G;go_wp2_with fail;refine k1.mono ?_;rintro e g ⟨rfl,H⟩;clear k1;have e1:Cl g wr.heap.size 1 (int i64 d):=(Cl.new (w:=wr) #[.string nm,int i64 d,int i64 z] 241 1 _ rfl rfl).at H;have e2:Cl g wr.heap.size 2 (int i64 z):=(Cl.new (w:=wr) #[.string nm,int i64 d,int i64 z] 241 2 _ rfl rfl).at H;have O:xQ wr g:=bt (ba _ _) H;have t1:=(e1.at (ba g (.cells #[int i64 (p:Int)] 3))).c;have t2:=(e2.at (ba g (.cells #[int i64 (p:Int)] 3))).c;cases hd:fY d with
    | false =>
     obtain rfl:1=er:=by rw[<-HI.out,S.out,HF.out,hd];rfl
     have k2:=dzQ d z (g.alloc (.cells #[int i64 (p:Int)] 3)) hd;clear hd;go_wp2_with fail;refine k2.mono ?_;rintro e k ⟨rfl,I⟩;go_wp2;exact⟨rfl,bt (bt E (bt O (ba _ _))) I,.inr ⟨by decide,rfl⟩⟩
    | true =>
     have k2:=dyJ d z (g.alloc (.cells #[int i64 (p:Int)] 3)) hd;have aq:Hid (zD l (C.drop (i+1))=er):=by have:=HI.out;rwa [S.out,HF.out,hd] at this
     clear hd;go_wp2_with fail;refine k2.mono ?_;rintro e k ⟨rfl,M⟩;have T:(g.alloc (.cells #[int i64 (p:Int)] 3)).heap.size=g.heap.size+1:=by simp
     rw[T];have X1:Boxed k g.heap.size 3 (int i64 (p:Int)):=by rw[M];exact(Boxed.new g 3 _).alloc _
     have X2:Boxed k (g.heap.size+1) 3 (int i64 z):=by rw[M];have:=Boxed.new (g.alloc (.cells #[int i64 (p:Int)] 3)) 3 (int i64 z);rwa [T] at this
     have P:xQ g k:=by rw[M];exact bal (ba _ _) _
     have I:xQ wr k:=bt O P;clear M k2 t1 t2 e1 e2 H P T;obtain⟨D,y⟩:∃ D,k.alloc (.cells #[lG d (g.heap.size+1)] 195)=D:=⟨_,rfl⟩;have J:xQ wr D:=by rw[<-y];exact bal I _
     have Y1:=Boxed.at X1 (by rw[<-y];exact ba _ _:xQ k D);have Y2:=Boxed.at X2 (by rw[<-y];exact ba _ _:xQ k D);have Y3:Boxed D k.heap.size 195 (lG d (g.heap.size+1)):=by rw[<-y];exact Boxed.new k 195 _
     have YA:Boxed D A.heap.size 270 (.slice Y h.length Z):=Boxed.at a6.out J;have YT:zK D A.heap.size (.slice Y h.length Z) h:=HT.out.at J;have tA:=YA.cell;have N:Hid (Boxed D g.heap.size 3 (int i64 (p:Int))/\Boxed D (g.heap.size+1) 3 (int i64 z)/\Boxed D k.heap.size 195 (lG d (g.heap.size+1))/\Boxed D A.heap.size 270 (.slice Y h.length Z)/\zK D A.heap.size (.slice Y h.length Z) h):=⟨Y1,Y2,Y3,YA,YT⟩;clear Y1 Y2 Y3 X1 X2 YA YT;have ax:=qQ y;have ag:(k.alloc (.cells #[lG d (g.heap.size+1)] 195)).cell? ⟨A.heap.size,0,none⟩=some (.slice Y h.length Z):=by rw[y];exact tA
     have HO:Hid (((k.alloc (.cells #[lG d (g.heap.size+1)] 195)).alloc (.cells #[.func (.func 203) #[] #[.pointer (some ⟨k.heap.size,0,none⟩),.pointer (some ⟨g.heap.size,0,none⟩)]] 239)).ownsRow A.heap.size 239 1 (.slice Y h.length Z) h.length (h.map (·.1))):=by
      show World.ownsRow _ _ _ _ _ _ _;rw[y];exact dG N.out.2.2.2.2.1 (ba _ _)
     have Q:Hid (h.length<=64):=by have:=congrArg List.length R.out;simp at this;show _<=_;omega
     have b6:Hid (A.heap.size<=k.heap.size):=by show _<=_;exact bQ ae I.size
     clear y tA;simp only[lG] at ag HO ⊢;go_wp2_with (at_builtin;refine qF _ rfl _ _ 270 rfl A.heap.size 239 i0 .nilFunc 1 8 underlying270 b3 b8 bb bc rfl (by decide) _ _ _ rfl HO.out ⟨k.heap.size+1,0,none⟩ 1 1 [.func (.func 203) #[] #[.pointer (some ⟨k.heap.size,0,none⟩),.pointer (some ⟨g.heap.size,0,none⟩)]] rfl ?q1 ?q2 ?q3 ?q4 ?q5 ?q6 ?_)
     case q1=>rfl
     case q2 =>
      intro j u hj
      match j,hj with
      | 0,hj=>simp at hj;subst hj;simp[go_sem,Addr.add]
     case q3=>intro u hu;simp at hu;subst hu;rfl
     case q4=>have:=Q.out;simp[maxLen];omega
     case q5=>have:=Q.out;omega
     case q6=>have:=b6.out;simp;omega
     intro v6 w6 F m ac;rw[show(k.alloc (.cells #[.func (.func (219+d.toNat)) #[] #[.pointer (some ⟨g.heap.size+1,0,none⟩)]] 195))=D from ax.out] at m;obtain⟨Z1,Z2,Z3,_,Z5⟩:=Boxed.appended N.out.2.2.2.1 (by decide) N.out.2.2.2.2.1 (bQ ae J.size) (vQ _) F m;obtain⟨va,vc,rfl⟩:=pI F
     have ZC:Hid (zK (w6.setCell ⟨A.heap.size,0,none⟩ (.slice va (h.length+1) vc)) A.heap.size (.slice va (h.length+1) vc) (h++[(.func (.func 203) #[] #[.pointer (some ⟨k.heap.size,0,none⟩),.pointer (some ⟨g.heap.size,0,none⟩)],(p,d,z))])):=by
      have af:∀ V e,gF D V e->gF (w6.setCell ⟨A.heap.size,0,none⟩ (.slice va (h.length+1) vc)) V e:=fun V e L =>
       ((L.at (ba _ _)).grow (dG N.out.2.2.2.2.1 (ba _ _)) m).setb Z1
      refine⟨by simpa using Z3,fun e L=>?_⟩;rcases aV.1 L with L|L
      ·exact af _ _ (N.out.2.2.2.2.2 e L)
      ·obtain rfl:=uN.1 L
       exact af _ _ ⟨_,_,_,rfl,N.out.2.2.1,N.out.1,N.out.2.1⟩
     have ZE:Hid ((h++[((.func (.func 203) #[] #[.pointer (some ⟨k.heap.size,0,none⟩),.pointer (some ⟨g.heap.size,0,none⟩)]:Value),(p,d,z))]).map (·.2)=(C.take (i+1)).map (trp l)):=by
      show _=_
      rw[iA,R.out,rX,HG.out,iA];simp[trp,HF.out]
     have az:xQ A (w6.setCell ⟨A.heap.size,0,none⟩ (.slice va (h.length+1) vc)):=(bt E J).trans Z5;have ZB:=qQ Z2;have z1:=Z1.cell;have z2:=Z1.frozen;clear Z1 Z2 Z3 Z5 m F ac ag HO;go_wp2
     go_roundw
     case rel=>exact⟨i+1,by go_num,h1,aq,az,_,_,ZB.out,ZC.out,ZE.out⟩
     case measure=>simp[intOf];omega
  ·obtain rfl:0=er:=by have:=HI.out;rw[nG (by omega)] at this;exact this
   have a7:Hid (h.map (·.2)=C.map (trp l)):=by have:=R.out;rwa [gJ (by omega)] at this
   go_wp2;go_ret;exact⟨E,.inl ⟨rfl,_,_,h,vQ _,rfl,a6.out,HT.out,a7.out⟩⟩
