import Derived.Test.YtlndlpjadajelaaGreatQq19
import Derived.Defers
import Derived.Recover
namespace Go.Proofs.YtlndlpjadajelaaGreat.K.Ds
abbrev Tst:=ByteArray × Int × Int
abbrev Bnd:=Int × Int × Int
inductive Qu where
 | none
 | node (k:Int) (c:ByteArray) (lo hi:Int) (wh:List Tst) (n:Nat) (x y:Qu)
def fnd:List Col→ByteArray→Option Nat
 | [],_=>none
 | c :: l,s=>if c.1=s then some 0 else (fnd l s).map (· + 1)
theorem fnd_lt {l:List Col} {s:ByteArray} {i:Nat} (h:fnd l s=some i):i < l.length:=by
 induction l generalizing i with
 | nil=>simp [fnd] at h
 | cons c l ih =>
  simp only [fnd] at h
  split at h
  ·simp only [Option.some.injEq] at h; subst h; simp
  ·obtain ⟨j,hj,rfl⟩:=Option.map_eq_some_iff.1 h
   have:=ih hj
   simp; omega
def NoC (l:List Col) (s:ByteArray) (i:Nat):Prop:=∀ j c,j < i→l[j]? = some c→c.1≠s
theorem fnd_hit {l:List Col} {s:ByteArray} {i:Nat} {c:Col} (h:NoC l s i) (hc:l[i]? = some c) (he:c.1=s):fnd l s=some i:=by
 induction l generalizing i with
 | nil=>simp at hc
 | cons d l ih =>
  simp only [fnd]
  cases i with
  | zero=>simp at hc; subst hc; rw [if_pos he]
  | succ i =>
   have h0:=h 0 d (by omega) rfl
   rw [if_neg h0,ih (i:=i) (fun j c hj hjc=>h (j + 1) c (by omega) (by simpa using hjc)) (by simpa using hc)]
   rfl
theorem fnd_no {l:List Col} {s:ByteArray} (h:NoC l s l.length):fnd l s=none:=by
 induction l with
 | nil=>rfl
 | cons d l ih =>
  simp only [fnd]
  rw [if_neg (h 0 d (by simp) rfl),ih (fun j c hj hjc=>h (j + 1) c (by simp; omega) (by simpa using hjc))]
  rfl
theorem NoC.next {l:List Col} {s:ByteArray} {i:Nat} {c:Col} (h:NoC l s i) (hc:l[i]? = some c) (hne:c.1≠s):NoC l s (i + 1):=by
 intro j d hj hd
 rcases Nat.lt_or_eq_of_le (Nat.le_of_lt_succ hj) with hlt | rfl
 ·exact h j d hlt hd
 ·rw [hc] at hd; cases hd; exact hne
def doB (d:Int):Bool:=decide (1≤d∧d≤6)
def tsE (l:List Col):List Tst→Int
 | []=>0
 | t :: r=>if (fnd l t.1).isSome then (if doB t.2.1 then tsE l r else 1) else 7
def whE (l:List Col) (wh:List Tst):Int:=if 64 < wh.length then 4 else tsE l wh
theorem tsE_step {l:List Col} {wh:List Tst} {i:Nat} {t:Tst} (h:wh[i]? = some t):tsE l (wh.drop i)=if (fnd l t.1).isSome then (if doB t.2.1 then tsE l (wh.drop (i + 1)) else 1) else 7:=by
 rw [List.drop_eq_getElem_cons (List.getElem?_eq_some_iff.1 h).1,(List.getElem?_eq_some_iff.1 h).2]
 rfl
theorem tsE_ok {l:List Col} {wh:List Tst} (h:tsE l wh=0):∀ t∈wh,(fnd l t.1).isSome=true∧doB t.2.1=true:=by
 induction wh with
 | nil=>intro t ht; cases ht
 | cons d r ih =>
  simp only [tsE] at h
  split at h
  ·split at h
   ·intro t ht
    rcases List.mem_cons.1 ht with rfl | ht
    ·exact ⟨by assumption,by assumption⟩
    ·exact ih h t ht
   ·cases h
  ·cases h
def kidN (k:Int):Int:=if k=1∨k=2∨k=3 then 0 else if k=6∨k=8∨k=9∨k=10 then 1 else if k=4∨k=5∨k=7 then 2 else -1
def wrtB (lo hi:Int):Bool:=decide (-1048576≤lo∧lo≤hi∧hi≤1048576)
def spn (lo hi:Int):Int:=if -lo≤hi then hi else -lo
theorem spn_bd {lo hi:Int} (h:wrtB lo hi=true):0≤spn lo hi∧spn lo hi≤1048576:=by
 simp only [wrtB,decide_eq_true_eq] at h
 unfold spn
 split <;> omega
def mx (a b:Int):Int:=if a≤b then b else a
def szC (l:List Col) (i:Nat):Int:=(l[i]?.map (·.2)).getD 0
def ifW (e:Int) (b:Bnd):Except Int Bnd:=if e=0 then .ok b else .error e
def rec (l:List Col) (k:Int) (c:ByteArray) (lo hi:Int) (wh:List Tst) (x y:Bnd):Except Int Bnd :=
 if k=1 then ifW (whE l wh) (1,1,4096)
 else if k=2 then (if (fnd l c).isSome then (if wrtB lo hi then ifW (whE l wh) (1,spn lo hi,4096 * spn lo hi) else .error 3) else .error 7)
 else if k=3 then (match fnd l c with | some i=>ifW (whE l wh) (szC l i,1,4096) | none=>.error 7)
 else if k=6 then (if wrtB lo lo then .ok (x.1,spn lo lo * x.2.1,spn lo lo * x.2.2) else .error 3)
 else if k=7 then .ok (x.1 + y.1,x.2.1 + y.2.1,mx x.2.2 y.2.2)
 else if k=8 then .ok (1,x.2.1,x.1 * x.2.2)
 else if k=9 then (if 0≤lo∧lo < x.1 then .ok (1,x.2.1,x.2.2) else .error 3)
 else if k=10 then (if wrtB lo hi then .ok (x.1,x.2.1,spn lo hi) else .error 3)
 else (if x.1=y.1 then .ok (x.1,x.2.1 + y.2.1,x.2.2 + y.2.2) else .error 8)
def limB (b:Bnd):Bool:=decide (b.1≤4096∧b.2.1≤1099511627776∧b.2.2≤1099511627776)
def lim (b:Bnd):Except Int Bnd:=if limB b then .ok b else .error 4
def ifK (p:Prop) [Decidable p] (r:Except Int Bnd):Except Int Bnd:=if p then r else .ok (0,0,0)
def bnd (l:List Col):Nat→Qu→Except Int Bnd
 | _,.none=>.ok (0,0,0)
 | lv,.node k c lo hi wh n x y =>
  if 64 < lv then .error 4 else if kidN k < 0 then .error 1 else if (n:Int)=kidN k then
   (match ifK (1≤n) (bnd l (lv + 1) x) with
    | .error e=>.error e
    | .ok bx=>match ifK (2≤n) (bnd l (lv + 1) y) with
     | .error e=>.error e
     | .ok b'=>match rec l k c lo hi wh bx b' with
      | .error e=>.error e
      | .ok b=>lim b)
  else .error 5
def BOk (b:Bnd):Prop:=0≤b.1∧b.1≤4096∧0≤b.2.1∧b.2.1≤1099511627776∧0≤b.2.2∧b.2.2≤1099511627776
theorem szC_bd {l:List Col} (hs:Szs l) {i:Nat} {s:ByteArray} (h:fnd l s=some i):1≤szC l i∧szC l i≤4096:=by
 obtain ⟨c,hc⟩:∃ c,l[i]? = some c:=⟨l[i]'(fnd_lt h),List.getElem?_eq_getElem (fnd_lt h)⟩
 have:=hs c (List.mem_of_getElem? hc)
 simp [szC,hc]; exact this
theorem mul_bd {a b M N:Int} (h1:0≤a) (h2:a≤M) (h3:0≤b) (h4:b≤N):0≤a * b∧a * b≤M * N :=
 ⟨Int.mul_nonneg h1 h3,Int.mul_le_mul h2 h4 h3 (by omega)⟩
theorem rec_bd {l:List Col} (hs:Szs l) {k:Int} {c:ByteArray} {lo hi:Int} {wh:List Tst} {x y b:Bnd} (hx:BOk x) (hy:BOk y) (h:rec l k c lo hi wh x y=.ok b):0≤b.1∧0≤b.2.1∧0≤b.2.2:=by
 obtain ⟨x1,x2,x3⟩:=x
 obtain ⟨y1,y2,y3⟩:=y
 obtain ⟨p1,p2,p3,p4,p5,p6⟩:=hx
 obtain ⟨q1,q2,q3,q4,q5,q6⟩:=hy
 simp only at p1 p2 p3 p4 p5 p6 q1 q2 q3 q4 q5 q6
 unfold rec ifW at h
 repeat' split at h
 all_goals first
  | cases h; done
  | (cases h; simp only; omega)
  | (rename_i h1 _; cases h; have:=spn_bd h1; simp only; omega)
  | skip
 ·rename_i hf _; cases h; have:=szC_bd hs hf; simp only; omega
 ·rename_i h1; cases h; have h0:=spn_bd h1
  have e1:=mul_bd h0.1 h0.2 p3 p4
  have e2:=mul_bd h0.1 h0.2 p5 p6
  simp only; omega
 ·cases h; simp only [mx]; split <;> omega
 ·cases h; have e2:=mul_bd p1 p2 p5 p6; simp only; omega
 ·rename_i h1; cases h; have h0:=spn_bd h1; simp only; omega
theorem lim_ok {b b':Bnd} (h:lim b=.ok b'):b' = b∧limB b=true:=by
 unfold lim at h
 split at h
 ·cases h; exact ⟨rfl,by assumption⟩
 ·cases h
theorem bnd_bd {l:List Col} (hs:Szs l) (q:Qu):∀ (lv:Nat) (b:Bnd),bnd l lv q=.ok b→BOk b:=by
 have z:BOk (0,0,0):=⟨by decide,by decide,by decide,by decide,by decide,by decide⟩
 induction q with
 | none=>intro lv b h; simp only [bnd] at h; cases h; exact z
 | node k c lo hi wh n x y ihx ihy =>
  intro lv b h
  simp only [bnd] at h
  split at h
  ·cases h
  ·split at h
   ·cases h
   ·split at h
    ·split at h
     ·cases h
     ·rename_i bx hbx
      split at h
      ·cases h
      ·rename_i b' hby
       split at h
       ·cases h
       ·rename_i b0 hr
        obtain ⟨rfl,hl⟩:=lim_ok h
        have kx:BOk bx:=by
         unfold ifK at hbx
         split at hbx
         ·exact ihx _ _ hbx
         ·cases hbx; exact z
        have ky:BOk b':=by
         unfold ifK at hby
         split at hby
         ·exact ihy _ _ hby
         ·cases hby; exact z
        have:=rec_bd hs kx ky hr
        simp only [limB,decide_eq_true_eq] at hl
        exact ⟨this.1,hl.1,this.2.1,hl.2.1,this.2.2,hl.2.2⟩
    ·cases h
end Go.Proofs.YtlndlpjadajelaaGreat.K.Ds
namespace Go.Proofs.YtlndlpjadajelaaGreat.K
open Go.RowKit Go.Proofs.YtlndlpjadajelaaGreat.K.Ds
def chn (e:Int):List PanicEntry:=[{ v:=.iface 158 (.agg #[.int .i64 e]),recovered:=false }]
theorem must_ok (e:Int) (w:World):Calls Tryz.prog 122 #[.bool true,.int .i64 e] w fun x w'=>x=.returned (.tuple #[])∧w' = w:=by
 go_enter Tryz.func122,Tryz.ntmps122
 go_wp2
 go_end0
 exact ⟨rfl,rfl⟩
theorem must_no (e:Int) (w:World):Calls Tryz.prog 122 #[.bool false,.int .i64 e] w fun x w'=>x=.panicked (chn e)∧w' = w:=by
 go_enter Tryz.func122,Tryz.ntmps122
 go_wp2
 exact ⟨rfl,rfl,rfl⟩
theorem check_ok (w:World):Calls Tryz.prog 70 #[.int .i64 0] w fun x w'=>x=.returned (.tuple #[])∧w' = w:=by
 go_enter Tryz.func70,Tryz.ntmps70
 go_wp2_with fail
 refine (must_ok 0 w).mono ?_
 rintro e w1 ⟨rfl,rfl⟩
 go_wp2
 go_end0
 exact ⟨rfl,rfl⟩
theorem check_no (e:Int) (he:e≠0) (w:World):Calls Tryz.prog 70 #[.int .i64 e] w fun x w'=>x=.panicked (chn e)∧w' = w:=by
 have hq:(e == 0)=false:=by simpa using he
 go_enter Tryz.func70,Tryz.ntmps70
 go_wp2_with fail
 refine (must_no e w).mono ?_
 rintro x w1 ⟨rfl,rfl⟩
 go_wp2
 exact ⟨rfl,rfl,rfl⟩
theorem assert70 (v:Value) (w:World):(Instr.typeAssert (.iface 158 v) 20 158 true).run Tryz.prog w=.ok (.tuple #[v,.bool true]) w:=by
 simp [Instr.typeAssert,run_underlying Tryz.underlying158]
theorem eqnil70 (v:Value) (w:World):(binOp .eql 20 (.iface 158 v) .nilIface).run Tryz.prog w=.ok (.bool false) w:=by
 have h:∀ d:Nat,(Op.equalIn (d + 1) 20 (.iface 158 v) .nilIface).run Tryz.prog w=.ok false w:=fun d=>by simp [Op.equalIn,run_underlying Tryz.underlying20]
 simp only [binOp]
 simp [Op.equal,Op.maxDepth,h 9999]
theorem hmf:∀ (fn:Fn) (first cap:Array Value) (w:World),(Instr.makeFunc fn first cap).run Tryz.prog w=.ok (.func fn first cap) w:=fun _ _ _ _=>rfl
structure Cl (w:World) (b k:Nat) (v:Value):Prop where
 c:w.cell? ⟨b,k,none⟩=some v
 f:w.frozen? ⟨b,k,none⟩=false
 lt:b < w.heap.size
theorem Cl.at {w w':World} {b k:Nat} {v:Value} (h:Cl w b k v) (hb:Below w.heap.size w w'):Cl w' b k v :=
 ⟨(hb.cell (p:=⟨b,k,none⟩) h.lt).trans h.c,(hb.frozen (p:=⟨b,k,none⟩) h.lt).trans h.f,Nat.lt_of_lt_of_le h.lt hb.size⟩
theorem Cl.new {w:World} {N:Nat} (cs:Array Value) (t:TypeId) (k:Nat) (x:Value) (hN:N=w.heap.size) (hx:cs[k]? = some x):Cl (w.alloc (.cells cs t)) N k x :=
 ⟨nc cs t k x hN hx,nf cs t k hN,by subst hN; simp⟩
theorem Cl.set {w:World} {b k:Nat} {v:Value} (h:Cl w b k v) (u:Value):Cl (w.setCell ⟨b,k,none⟩ u) b k u :=
 ⟨sc_same h.c,sc_frozen.trans h.f,by simpa using h.lt⟩
theorem Cl.oth {w:World} {b k b' k':Nat} {v:Value} (h:Cl w b k v) (hne:b'≠b∨k'≠k) (u:Value):Cl (w.setCell ⟨b',k',none⟩ u) b k v :=
 ⟨(sc_other (by intro e; simp only [Addr.mk.injEq] at e; omega)).trans h.c,sc_frozen.trans h.f,by simpa using h.lt⟩
theorem catchB_no (p:Nat) (x:Value) (e:Int) (w:World) (hc:Cl w p 0 x) :
  CallsD Tryz.prog 115 #[.pointer (some ⟨p,0,none⟩)] (.panicking (chn e)) w fun r u' w' =>
   r=.returned (.tuple #[])∧u' = .panicking [{ v:=.iface 158 (.agg #[.int .i64 e]),recovered:=true }]∧w' = (w.alloc (.cells #[.int .i64 e] 158)).setCell ⟨p,0,none⟩ (.int .i64 e):=by
 refine callsD_of_wpS Tryz.func115 rfl fun c₀ cs hu=>?_
 apply wpS_seq
 apply wpS_region
 simp [wpOpsS,go_sem,recoverD,hu,chn,Tryz.ntmps115,Exit.thenS]
 refine wpS_of_wp ?_
 change Code.wp Tryz.prog _ _ { tmps:=#[.pointer (some ⟨p,0,none⟩),undef,undef,undef,.iface 158 (.agg #[.int .i64 e]),undef,undef,undef,undef,undef,undef,undef],defers:=[] } w
 have ha:=assert70
 have hq:=eqnil70
 have hz2:=(hc.at (ba w (.cells #[.int .i64 e] 158))).f
 have hz3:=(hc.at (ba w (.cells #[.int .i64 e] 158))).c
 go_wp2
 exact ⟨rfl,_,rfl,_,results_none rfl _ _ _,rfl,rfl,rfl⟩
theorem catchB_ok (p:Addr) (w:World) :
  CallsD Tryz.prog 115 #[.pointer (some p)] .returning w fun r u' w'=>r=.returned (.tuple #[])∧u' = .returning∧w' = w:=by
 refine callsD_of_wpS Tryz.func115 rfl fun c₀ cs hu=>?_
 apply wpS_seq
 apply wpS_region
 simp [wpOpsS,go_sem,recoverD,hu,Tryz.ntmps115,Exit.thenS]
 refine wpS_of_wp ?_
 change Code.wp Tryz.prog _ _ { tmps:=#[.pointer (some p),undef,undef,undef,.nilIface,undef,undef,undef,undef,undef,undef,undef],defers:=[] } w
 go_wp2
 exact ⟨rfl,.returning,by rw [← hu],_,results_none rfl _ _ _,rfl,rfl,rfl⟩
theorem caughtB_ok (caps:Array Value) (b1 b2 b3:Int) (w:World) (kc:∀ W,Below w.heap.size w W→w.heap.size + 2≤W.heap.size→Calls Tryz.prog 61 caps W fun x w'=>x=.returned (.agg #[.int .i64 b1,.int .i64 b2,.int .i64 b3])∧Below W.heap.size W w') :
  Calls Tryz.prog 60 #[.func (.func 61) #[] caps] w fun e w'=>e=.returned (.tuple #[.agg #[.int .i64 b1,.int .i64 b2,.int .i64 b3],.int .i64 0])∧Below w.heap.size w w':=by
 have hmf:=hmf
 go_enter_defers Tryz.func60,Tryz.ntmps60
 have k1:=kc ((w.alloc (.cells #[.int .i64 0,.int .i64 0,.int .i64 0] 61)).alloc (.cells #[.int .i64 0] 33)) (bal (ba _ _) _) (by simp)
 go_wp2_with fail
 refine k1.mono ?_
 rintro e w1 ⟨rfl,hb1⟩
 have a0:=((Cl.new (w:=w) #[.int .i64 0,.int .i64 0,.int .i64 0] 61 0 _ rfl rfl).at (ba _ (.cells #[.int .i64 0] 33))).at hb1
 have a1:=((Cl.new (w:=w) #[.int .i64 0,.int .i64 0,.int .i64 0] 61 1 _ rfl rfl).at (ba _ (.cells #[.int .i64 0] 33))).at hb1
 have a2:=((Cl.new (w:=w) #[.int .i64 0,.int .i64 0,.int .i64 0] 61 2 _ rfl rfl).at (ba _ (.cells #[.int .i64 0] 33))).at hb1
 have a3:=(Cl.new (w:=w.alloc (.cells #[.int .i64 0,.int .i64 0,.int .i64 0] 61)) (N:=w.heap.size + 1) #[.int .i64 0] 33 0 _ (by simp) rfl).at hb1
 have hbw:Below w.heap.size w w1:=bt (bal (ba _ _) _) hb1
 have t0:=a0.c
 have s0:=a0.f
 have t1:=a1.c
 have s1:=a1.f
 have t2:=a2.c
 have s2:=a2.f
 have t3:=a3.c
 have s3:=a3.f
 clear hb1 k1 kc
 go_wp2
 refine leaves_cons (f:=115) (args:=#[.pointer (some ⟨w.heap.size + 1,0,none⟩)]) (by simp) (by simp [go_sem]) ?_
 refine (catchB_ok _ _).mono ?_
 rintro e u' w'' ⟨rfl,rfl,rfl⟩
 have hbz:Below w.heap.size w ((((w1.setCell ⟨w.heap.size,0,none⟩ (.int .i64 b1)).setCell ⟨w.heap.size,1,none⟩ (.int .i64 b2)).setCell ⟨w.heap.size,2,none⟩ (.int .i64 b3)).setCell ⟨w.heap.size + 1,0,none⟩ (.int .i64 0)):=bs (bs (bs (bs hbw (Nat.le_refl _) _) (Nat.le_refl _) _) (Nat.le_refl _) _) (Nat.le_succ _) _
 simp [Leaves,settle,results,Tryz.results60,go_sem,t0,t1,t2,t3]
 exact hbz
theorem caughtB_no (caps:Array Value) (er:Int) (w:World) (kc:∀ W,Below w.heap.size w W→w.heap.size + 2≤W.heap.size→Calls Tryz.prog 61 caps W fun x w'=>x=.panicked (chn er)∧Below W.heap.size W w') :
  Calls Tryz.prog 60 #[.func (.func 61) #[] caps] w fun e w'=>e=.returned (.tuple #[.agg #[.int .i64 0,.int .i64 0,.int .i64 0],.int .i64 er])∧Below w.heap.size w w':=by
 have hmf:=hmf
 go_enter_defers Tryz.func60,Tryz.ntmps60
 have k1:=kc ((w.alloc (.cells #[.int .i64 0,.int .i64 0,.int .i64 0] 61)).alloc (.cells #[.int .i64 0] 33)) (bal (ba _ _) _) (by simp)
 go_wp2_with fail
 refine k1.mono ?_
 rintro e w1 ⟨rfl,hb1⟩
 have a0:=((Cl.new (w:=w) #[.int .i64 0,.int .i64 0,.int .i64 0] 61 0 _ rfl rfl).at (ba _ (.cells #[.int .i64 0] 33))).at hb1
 have a1:=((Cl.new (w:=w) #[.int .i64 0,.int .i64 0,.int .i64 0] 61 1 _ rfl rfl).at (ba _ (.cells #[.int .i64 0] 33))).at hb1
 have a2:=((Cl.new (w:=w) #[.int .i64 0,.int .i64 0,.int .i64 0] 61 2 _ rfl rfl).at (ba _ (.cells #[.int .i64 0] 33))).at hb1
 have a3:=(Cl.new (w:=w.alloc (.cells #[.int .i64 0,.int .i64 0,.int .i64 0] 61)) (N:=w.heap.size + 1) #[.int .i64 0] 33 0 _ (by simp) rfl).at hb1
 have hbw:Below w.heap.size w w1:=bt (bal (ba _ _) _) hb1
 have t0:=a0.c
 have s0:=a0.f
 have t1:=a1.c
 have s1:=a1.f
 have t2:=a2.c
 have s2:=a2.f
 have t3:=a3.c
 have s3:=a3.f
 clear hb1 k1 kc
 go_wp2
 refine leaves_cons (f:=115) (args:=#[.pointer (some ⟨w.heap.size + 1,0,none⟩)]) (by simp) (by simp [go_sem]) ?_
 refine (catchB_no _ _ _ _ a3).mono ?_
 rintro e u' w'' ⟨rfl,rfl,rfl⟩
 have hbz:Below w.heap.size w ((w1.alloc (.cells #[.int .i64 er] 158)).setCell ⟨w.heap.size + 1,0,none⟩ (.int .i64 er)):=bs (bal hbw _) (Nat.le_succ _) _
 have r0:=(a0.at (ba _ (.cells #[.int .i64 er] 158))).c
 have r1:=(a1.at (ba _ (.cells #[.int .i64 er] 158))).c
 have r2:=(a2.at (ba _ (.cells #[.int .i64 er] 158))).c
 have r3:=(a3.at (ba _ (.cells #[.int .i64 er] 158))).c
 simp [Leaves,settle,results,Tryz.results60,go_sem,r0,r1,r2,r3]
 exact hbz
theorem catchL_no (p:Nat) (x:Value) (e:Int) (w:World) (hc:Cl w p 0 x) :
  CallsD Tryz.prog 121 #[.pointer (some ⟨p,0,none⟩)] (.panicking (chn e)) w fun r u' w' =>
   r=.returned (.tuple #[])∧u' = .panicking [{ v:=.iface 158 (.agg #[.int .i64 e]),recovered:=true }]∧w' = (w.alloc (.cells #[.int .i64 e] 158)).setCell ⟨p,0,none⟩ (.int .i64 e):=by
 refine callsD_of_wpS Tryz.func121 rfl fun c₀ cs hu=>?_
 apply wpS_seq
 apply wpS_region
 simp [wpOpsS,go_sem,recoverD,hu,chn,Tryz.ntmps121,Exit.thenS]
 refine wpS_of_wp ?_
 change Code.wp Tryz.prog _ _ { tmps:=#[.pointer (some ⟨p,0,none⟩),undef,undef,undef,.iface 158 (.agg #[.int .i64 e]),undef,undef,undef,undef,undef,undef,undef],defers:=[] } w
 have ha:=assert70
 have hq:=eqnil70
 have hz2:=(hc.at (ba w (.cells #[.int .i64 e] 158))).f
 have hz3:=(hc.at (ba w (.cells #[.int .i64 e] 158))).c
 go_wp2
 exact ⟨rfl,_,rfl,_,results_none rfl _ _ _,rfl,rfl,rfl⟩
theorem catchL_ok (p:Addr) (w:World) :
  CallsD Tryz.prog 121 #[.pointer (some p)] .returning w fun r u' w'=>r=.returned (.tuple #[])∧u' = .returning∧w' = w:=by
 refine callsD_of_wpS Tryz.func121 rfl fun c₀ cs hu=>?_
 apply wpS_seq
 apply wpS_region
 simp [wpOpsS,go_sem,recoverD,hu,Tryz.ntmps121,Exit.thenS]
 refine wpS_of_wp ?_
 change Code.wp Tryz.prog _ _ { tmps:=#[.pointer (some p),undef,undef,undef,.nilIface,undef,undef,undef,undef,undef,undef,undef],defers:=[] } w
 go_wp2
 exact ⟨rfl,.returning,by rw [← hu],_,results_none rfl _ _ _,rfl,rfl,rfl⟩
theorem caughtL_ok (caps:Array Value) (Q:Value→World→Prop) (w:World) (kc:∀ W,Below w.heap.size w W→w.heap.size + 1≤W.heap.size→Calls Tryz.prog 69 caps W fun x w'=>∃ V,x=.returned V∧Q V w'∧Below W.heap.size W w') :
  Calls Tryz.prog 68 #[.func (.func 69) #[] caps] w fun e w'=>∃ V w1,e=.returned (.tuple #[V,.int .i64 0])∧Q V w1∧Below w.heap.size w w1∧w' = w1.setCell ⟨w.heap.size,0,none⟩ (.int .i64 0):=by
 have hmf:=hmf
 go_enter_defers Tryz.func68,Tryz.ntmps68
 have k1:=kc (w.alloc (.cells #[.int .i64 0] 33)) (ba _ _) (by simp)
 go_wp2_with fail
 refine k1.mono ?_
 rintro e w1 ⟨V,rfl,hQ,hb1⟩
 have a0:=(Cl.new (w:=w) #[.int .i64 0] 33 0 _ rfl rfl).at hb1
 have hbw:Below w.heap.size w w1:=bt (ba _ _) hb1
 have t0:=a0.c
 have s0:=a0.f
 clear hb1 k1 kc
 go_wp2
 refine leaves_cons (f:=121) (args:=#[.pointer (some ⟨w.heap.size,0,none⟩)]) (by simp) (by simp [go_sem]) ?_
 refine (catchL_ok _ _).mono ?_
 rintro e u' w'' ⟨rfl,rfl,rfl⟩
 simp [Leaves,settle,results,Tryz.results68,go_sem,t0]
 exact ⟨_,hQ,hbw,rfl⟩
theorem caughtL_no (caps:Array Value) (er:Int) (w:World) (kc:∀ W,Below w.heap.size w W→w.heap.size + 1≤W.heap.size→Calls Tryz.prog 69 caps W fun x w'=>x=.panicked (chn er)∧Below W.heap.size W w') :
  Calls Tryz.prog 68 #[.func (.func 69) #[] caps] w fun e w'=>e=.returned (.tuple #[.slice none 0 0,.int .i64 er])∧Below w.heap.size w w':=by
 have hmf:=hmf
 go_enter_defers Tryz.func68,Tryz.ntmps68
 have k1:=kc (w.alloc (.cells #[.int .i64 0] 33)) (ba _ _) (by simp)
 go_wp2_with fail
 refine k1.mono ?_
 rintro e w1 ⟨rfl,hb1⟩
 have a0:=(Cl.new (w:=w) #[.int .i64 0] 33 0 _ rfl rfl).at hb1
 have hbw:Below w.heap.size w w1:=bt (ba _ _) hb1
 have t0:=a0.c
 have s0:=a0.f
 clear hb1 k1 kc
 go_wp2
 refine leaves_cons (f:=121) (args:=#[.pointer (some ⟨w.heap.size,0,none⟩)]) (by simp) (by simp [go_sem]) ?_
 refine (catchL_no _ _ _ _ a0).mono ?_
 rintro e u' w'' ⟨rfl,rfl,rfl⟩
 have hbz:Below w.heap.size w ((w1.alloc (.cells #[.int .i64 er] 158)).setCell ⟨w.heap.size,0,none⟩ (.int .i64 er)):=bs (bal hbw _) (Nat.le_refl _) _
 have r0:=(a0.at (ba _ (.cells #[.int .i64 er] 158))).c
 simp [Leaves,settle,results,Tryz.results68,go_sem,r0]
 exact hbz
theorem is_any (g:Nat) (n1 n2:ByteArray) (s1:Int) (w:World) (hg:g < w.heap.size) (hc:w.cell? ⟨g,0,none⟩=some (.string n2)) (r:Bool) (hr:decide (n1=n2)=r) :
  Calls Tryz.prog 181 #[.agg #[.string n1,.int .i64 s1],.pointer (some ⟨g,0,none⟩)] w fun e w'=>e=.returned (.bool r)∧Below w.heap.size w w':=by
 have hq:(n1.toList == n2.toList)=r:=(str_eq _ _).trans hr
 clear hr
 go_enter Tryz.func181,Tryz.ntmps181
 go_wp2
 go_ret
 exact ⟨rfl,ba _ _⟩
def fnI (l:List Col) (s:ByteArray):Int:=match fnd l s with | some i=>i | none=>-1
theorem fnI_some {l:List Col} {s:ByteArray} {i:Nat} (h:fnd l s=some i):fnI l s=i:=by rw [fnI,h]
theorem fnI_none {l:List Col} {s:ByteArray} (h:fnd l s=none):fnI l s = -1:=by rw [fnI,h]
set_option maxHeartbeats 400000 in
theorem indexF_any (B g:Nat) (v:Value) (l:List Col) (nm0:ByteArray) (w:World) (hB:B≤w.heap.size) (hp:Cols w B v l) (hg:g < w.heap.size) (hc0:w.cell? ⟨g,0,none⟩=some (.string nm0)) (r:Int) (hr:fnI l nm0=r) :
  Calls Tryz.prog 180 #[v,.func (.func 181) #[] #[.pointer (some ⟨g,0,none⟩)]] w fun e w'=>e=.returned (.int .i64 r)∧Below w.heap.size w w':=by
 have HP:Hid (Cols w B v l):=hp
 have HR:Hid (fnI l nm0=r):=hr
 have HC0:Hid (w.cell? ⟨g,0,none⟩=some (.string nm0)):=hc0
 obtain ⟨a,c,rfl,hc,hl⟩:=hp.slice
 clear hr hc0
 go_enter Tryz.func180,Tryz.ntmps180
 go_wp2
 go_loopw [8] (fun s wr=>∃ (i:Nat),s=.int .i64 (i:Int)∧i≤l.length∧Hid (NoC l nm0 i)∧Below w.heap.size w wr) (fun s _=>l.length - (intOf s).toNat)
 case atStart=>exact ⟨0,rfl,Nat.zero_le _,fun j c hj=>by omega,Below.refl _ _⟩
 case round =>
  obtain ⟨i,rfl,hi,HI,hbl⟩:=hrel
  by_cases h1:i < l.length
  ·obtain ⟨b,o,nm,sz,rfl,hb,hgt,c1,c2,hn⟩:=HP.out.get hB hbl h1
   have HG:Hid (l[i]? = some (nm,sz)):=hgt
   clear hgt
   have hgr:g < wr.heap.size:=Nat.lt_of_lt_of_le hg hbl.size
   have HCR:Hid (wr.cell? ⟨g,0,none⟩=some (.string nm0)):=(hbl.cell (p:=⟨g,0,none⟩) hg).trans HC0.out
   cases he:decide (nm=nm0) with
   | true =>
    have HE:Hid (decide (nm=nm0)=true):=he
    clear he
    obtain rfl:(i:Int)=r:=by rw [← HR.out]; exact (fnI_some (fnd_hit HI.out HG.out (of_decide_eq_true HE.out))).symm
    go_wp2_with fail
    refine (is_any g nm nm0 sz _ hgr HCR.out true HE.out).mono ?_
    rintro e w1 ⟨rfl,hb1⟩
    go_wp2
    go_ret
    exact ⟨rfl,bt hbl hb1⟩
   | false =>
    have HE:Hid (decide (nm=nm0)=false):=he
    clear he
    go_wp2_with fail
    refine (is_any g nm nm0 sz _ hgr HCR.out false HE.out).mono ?_
    rintro e w1 ⟨rfl,hb1⟩
    go_wp2
    go_roundw
    case rel=>exact ⟨i + 1,by go_num,h1,HI.out.next HG.out (of_decide_eq_false HE.out),bt hbl hb1⟩
    case measure=>simp [intOf]; omega
  ·obtain rfl:-1=r:=by rw [← HR.out]; exact (fnI_none (fnd_no (by have:=HI.out; rwa [show i=l.length by omega] at this))).symm
   go_wp2
   go_ret
   exact ⟨rfl,hbl⟩
theorem find_ok (B:Nat) (v:Value) (l:List Col) (s:ByteArray) (w:World) (hB:B≤w.heap.size) (hp:Cols w B v l) (i:Nat) (hr:fnd l s=some i) :
  Calls Tryz.prog 130 #[v,.string s] w fun e w'=>e=.returned (.int .i64 (i:Int))∧Below w.heap.size w w':=by
 have HI:Hid (fnI l s=(i:Int)):=fnI_some hr
 have k1:=indexF_any B w.heap.size v l s (w.alloc (.cells #[.string s] 9)) (by simp; omega) (hp.at hB (ba _ _)) (by simp) (nc _ _ 0 _ rfl rfl) _ HI.out
 clear hp hr
 have hmf:=hmf
 go_enter Tryz.func130,Tryz.ntmps130
 go_wp2_with fail
 refine k1.mono ?_
 rintro e w1 ⟨rfl,hb1⟩
 clear k1
 have hbw:Below w.heap.size w w1:=bt (ba _ _) hb1
 clear hb1
 go_wp2_with fail
 refine (must_ok 7 w1).mono ?_
 rintro e w2 ⟨rfl,rfl⟩
 go_wp2
 go_ret
 exact ⟨rfl,hbw⟩
theorem find_no (B:Nat) (v:Value) (l:List Col) (s:ByteArray) (w:World) (hB:B≤w.heap.size) (hp:Cols w B v l) (hr:fnd l s=none) :
  Calls Tryz.prog 130 #[v,.string s] w fun e w'=>e=.panicked (chn 7)∧Below w.heap.size w w':=by
 have HI:Hid (fnI l s = -1):=fnI_none hr
 have k1:=indexF_any B w.heap.size v l s (w.alloc (.cells #[.string s] 9)) (by simp; omega) (hp.at hB (ba _ _)) (by simp) (nc _ _ 0 _ rfl rfl) _ HI.out
 clear hp hr
 have hmf:=hmf
 go_enter Tryz.func130,Tryz.ntmps130
 go_wp2_with fail
 refine k1.mono ?_
 rintro e w1 ⟨rfl,hb1⟩
 clear k1
 have hbw:Below w.heap.size w w1:=bt (ba _ _) hb1
 clear hb1
 go_wp2_with fail
 refine (must_no 7 w1).mono ?_
 rintro e w2 ⟨rfl,rfl⟩
 go_wp2
 exact ⟨rfl,rfl,hbw⟩
theorem kids_ok (k:Int) (w:World) (n:Int) (hn:0≤n) (hk:kidN k=n):Calls Tryz.prog 124 #[.int .i64 k] w fun e w'=>e=.returned (.int .i64 n)∧w' = w:=by
 unfold kidN at hk
 go_enter Tryz.func124,Tryz.ntmps124
 by_cases h1:k=1
 ·subst h1; subst hk; go_wp2; go_ret; exact ⟨rfl,rfl⟩
 by_cases h2:k=2
 ·subst h2; subst hk; go_wp2; go_ret; exact ⟨rfl,rfl⟩
 by_cases h3:k=3
 ·subst h3; subst hk; go_wp2; go_ret; exact ⟨rfl,rfl⟩
 by_cases h4:k=4
 ·subst h4; subst hk; go_wp2; go_ret; exact ⟨rfl,rfl⟩
 by_cases h5:k=5
 ·subst h5; subst hk; go_wp2; go_ret; exact ⟨rfl,rfl⟩
 by_cases h6:k=6
 ·subst h6; subst hk; go_wp2; go_ret; exact ⟨rfl,rfl⟩
 by_cases h7:k=7
 ·subst h7; subst hk; go_wp2; go_ret; exact ⟨rfl,rfl⟩
 by_cases h8:k=8
 ·subst h8; subst hk; go_wp2; go_ret; exact ⟨rfl,rfl⟩
 by_cases h9:k=9
 ·subst h9; subst hk; go_wp2; go_ret; exact ⟨rfl,rfl⟩
 by_cases h10:k=10
 ·subst h10; subst hk; go_wp2; go_ret; exact ⟨rfl,rfl⟩
 exfalso; simp [h1,h2,h3,h4,h5,h6,h7,h8,h9,h10] at hk; omega
theorem kids_no (k:Int) (w:World) (hk:kidN k < 0):Calls Tryz.prog 124 #[.int .i64 k] w fun e w'=>e=.panicked (chn 1)∧w' = w:=by
 have g1:(k == 1)=false:=by rw [beq_eq_false_iff_ne]; rintro rfl; simp [kidN] at hk
 have g2:(k == 2)=false:=by rw [beq_eq_false_iff_ne]; rintro rfl; simp [kidN] at hk
 have g3:(k == 3)=false:=by rw [beq_eq_false_iff_ne]; rintro rfl; simp [kidN] at hk
 have g4:(k == 4)=false:=by rw [beq_eq_false_iff_ne]; rintro rfl; simp [kidN] at hk
 have g5:(k == 5)=false:=by rw [beq_eq_false_iff_ne]; rintro rfl; simp [kidN] at hk
 have g6:(k == 6)=false:=by rw [beq_eq_false_iff_ne]; rintro rfl; simp [kidN] at hk
 have g7:(k == 7)=false:=by rw [beq_eq_false_iff_ne]; rintro rfl; simp [kidN] at hk
 have g8:(k == 8)=false:=by rw [beq_eq_false_iff_ne]; rintro rfl; simp [kidN] at hk
 have g9:(k == 9)=false:=by rw [beq_eq_false_iff_ne]; rintro rfl; simp [kidN] at hk
 have g10:(k == 10)=false:=by rw [beq_eq_false_iff_ne]; rintro rfl; simp [kidN] at hk
 clear hk
 go_enter Tryz.func124,Tryz.ntmps124
 go_wp2
 exact ⟨rfl,rfl,rfl⟩
theorem span_ok (lo hi:Int) (w:World) (h:wrtB lo hi=true):Calls Tryz.prog 179 #[.int .i64 lo,.int .i64 hi] w fun e w'=>e=.returned (.int .i64 (spn lo hi))∧w' = w:=by
 simp only [wrtB,decide_eq_true_eq] at h
 obtain ⟨h1,h2,h3⟩:=h
 go_enter Tryz.func179,Tryz.ntmps179
 go_wp2_with fail
 refine (must_ok 3 w).mono ?_
 rintro e w2 ⟨rfl,rfl⟩
 go_wp2
 ·go_ret
  exact ⟨by rw [spn,if_pos (by omega)]; rfl,rfl⟩
 ·go_ret
  exact ⟨by rw [show spn lo hi = -lo by unfold spn; split <;> omega]; rfl,rfl⟩
theorem span_no (lo hi:Int) (w:World) (h:wrtB lo hi=false):Calls Tryz.prog 179 #[.int .i64 lo,.int .i64 hi] w fun e w'=>e=.panicked (chn 3)∧w' = w:=by
 simp only [wrtB,decide_eq_false_iff_not] at h
 go_enter Tryz.func179,Tryz.ntmps179
 by_cases h1:-1048576≤lo
 ·by_cases h2:lo≤hi
  ·have h3:¬ hi≤1048576:=fun h3=>h ⟨h1,h2,h3⟩
   go_wp2_with fail
   refine (must_no 3 w).mono ?_
   rintro e w2 ⟨rfl,rfl⟩
   go_wp2
   exact ⟨rfl,rfl,rfl⟩
  ·go_wp2_with fail
   refine (must_no 3 w).mono ?_
   rintro e w2 ⟨rfl,rfl⟩
   go_wp2
   exact ⟨rfl,rfl,rfl⟩
 ·go_wp2_with fail
  refine (must_no 3 w).mono ?_
  rintro e w2 ⟨rfl,rfl⟩
  go_wp2
  exact ⟨rfl,rfl,rfl⟩
def Tss (w:World) (B:Nat) (v:Value) (l:List Tst):Prop :=
 ∃ a c,v=.slice a l.length c∧l.length≤c∧l.length≤9223372036854775807∧(∀ x∈l,x.1.size≤9223372036854775807) ∧
  (l≠[]→∃ b o,a=some ⟨b,o,none⟩∧b < B∧∀ i x,l[i]? = some x→w.cell? ⟨b,o + i * 3,none⟩=some (.string x.1)∧w.cell? ⟨b,o + i * 3 + 1,none⟩=some (.int .i64 x.2.1)∧w.cell? ⟨b,o + i * 3 + 2,none⟩=some (.int .i64 x.2.2))
theorem Tss.keep {w w':World} {B:Nat} {v:Value} {l:List Tst} (h:Tss w B v l) (hb:Below B w w'):Tss w' B v l:=by
 obtain ⟨a,c,hv,hc,hl,hn,hx⟩:=h
 refine ⟨a,c,hv,hc,hl,hn,fun hne=>?_⟩
 obtain ⟨b,o,ha,hB,hcell⟩:=hx hne
 exact ⟨b,o,ha,hB,fun i x hi=>⟨(hb.cell (p:=⟨b,o + i * 3,none⟩) hB).trans (hcell i x hi).1,(hb.cell (p:=⟨b,o + i * 3 + 1,none⟩) hB).trans (hcell i x hi).2.1,(hb.cell (p:=⟨b,o + i * 3 + 2,none⟩) hB).trans (hcell i x hi).2.2⟩⟩
theorem Tss.at {w w':World} {B:Nat} {v:Value} {l:List Tst} (h:Tss w B v l) (hB:B≤w.heap.size) (hb:Below w.heap.size w w'):Tss w' B v l:=h.keep (hb.mono hB)
theorem Tss.slice {w:World} {B:Nat} {v:Value} {l:List Tst} (h:Tss w B v l):∃ a c,v=.slice a l.length c∧l.length≤c∧l.length≤9223372036854775807:=by
 obtain ⟨a,c,hv,hc,hl,_⟩:=h
 exact ⟨a,c,hv,hc,hl⟩
theorem Tss.get {w wr:World} {B:Nat} {a:Option Addr} {n c:Nat} {l:List Tst} (h:Tss w B (.slice a n c) l) (hB:B≤w.heap.size) (hb:Below w.heap.size w wr) {i:Nat} (hi:i < l.length) :
  ∃ b o nm d z,a=some ⟨b,o,none⟩∧b < B∧l[i]? = some (nm,d,z)∧wr.cell? ⟨b,o + i * 3,none⟩=some (.string nm)∧wr.cell? ⟨b,o + i * 3 + 1,none⟩=some (.int .i64 d)∧wr.cell? ⟨b,o + i * 3 + 2,none⟩=some (.int .i64 z)∧nm.size≤9223372036854775807:=by
 obtain ⟨a',c',hv,_,_,hn,hx⟩:=h.at hB hb
 simp only [Value.slice.injEq] at hv
 obtain ⟨rfl,rfl,rfl⟩:=hv
 obtain ⟨b,o,rfl,hbB,hcell⟩:=hx (ne_of_lt hi)
 obtain ⟨⟨nm,d,z⟩,hx⟩:=get_lt hi
 exact ⟨b,o,nm,d,z,rfl,hbB,hx,(hcell i _ hx).1,(hcell i _ hx).2.1,(hcell i _ hx).2.2,hn _ (List.mem_of_getElem? hx)⟩
def At6 (w:World) (b o:Nat) (v0 v1 v2 v3 v4 v5:Value):Prop :=
 w.cell? ⟨b,o,none⟩=some v0∧w.cell? ⟨b,o + 1,none⟩=some v1∧w.cell? ⟨b,o + 2,none⟩=some v2∧w.cell? ⟨b,o + 3,none⟩=some v3∧w.cell? ⟨b,o + 4,none⟩=some v4∧w.cell? ⟨b,o + 5,none⟩=some v5
theorem At6.keep {w w':World} {B b o:Nat} {v0 v1 v2 v3 v4 v5:Value} (h:At6 w b o v0 v1 v2 v3 v4 v5) (hb:Below B w w') (hB:b < B):At6 w' b o v0 v1 v2 v3 v4 v5 :=
 ⟨(hb.cell (p:=⟨b,o,none⟩) hB).trans h.1,(hb.cell (p:=⟨b,o + 1,none⟩) hB).trans h.2.1,(hb.cell (p:=⟨b,o + 2,none⟩) hB).trans h.2.2.1,(hb.cell (p:=⟨b,o + 3,none⟩) hB).trans h.2.2.2.1,(hb.cell (p:=⟨b,o + 4,none⟩) hB).trans h.2.2.2.2.1,(hb.cell (p:=⟨b,o + 5,none⟩) hB).trans h.2.2.2.2.2⟩
def Qm (w:World) (B:Nat):Qu→Value→Value→Value→Value→Value→Value→Prop
 | .none,_,_,_,_,_,_=>False
 | .node k c lo hi wh n x y,v0,v1,v2,v3,v4,v5 =>
  (v0=.int .i64 k∧v1=.string c∧v2=.int .i64 lo∧v3=.int .i64 hi∧c.size≤9223372036854775807∧Tss w B v4 wh∧∃ a cap,v5=.slice a n cap∧n≤cap∧n≤9223372036854775807 ∧
   (1≤n→n≤2→∃ b o,a=some ⟨b,o,none⟩∧b < B∧(∃ u0 u1 u2 u3 u4 u5,At6 w b o u0 u1 u2 u3 u4 u5∧Qm w B x u0 u1 u2 u3 u4 u5) ∧
    (2≤n→∃ u0 u1 u2 u3 u4 u5,At6 w b (o + 6) u0 u1 u2 u3 u4 u5∧Qm w B y u0 u1 u2 u3 u4 u5)))
theorem Qm.keep {w w':World} {B:Nat} (hb:Below B w w') (q:Qu):∀ {v0 v1 v2 v3 v4 v5:Value},Qm w B q v0 v1 v2 v3 v4 v5→Qm w' B q v0 v1 v2 v3 v4 v5:=by
 induction q with
 | none=>intro v0 v1 v2 v3 v4 v5 h; exact h
 | node k c lo hi wh n x y ihx ihy =>
  rintro v0 v1 v2 v3 v4 v5 ⟨h0,h1,h2,h3,hc,hw,a,cap,h5,hn,hm,hk⟩
  refine ⟨h0,h1,h2,h3,hc,hw.keep hb,a,cap,h5,hn,hm,fun g1 g2=>?_⟩
  obtain ⟨b,o,ha,hB,⟨u0,u1,u2,u3,u4,u5,hx,hq⟩,h2⟩:=hk g1 g2
  refine ⟨b,o,ha,hB,⟨u0,u1,u2,u3,u4,u5,hx.keep hb hB,ihx hq⟩,fun g=>?_⟩
  obtain ⟨u0,u1,u2,u3,u4,u5,hx,hq⟩:=h2 g
  exact ⟨u0,u1,u2,u3,u4,u5,hx.keep hb hB,ihy hq⟩
theorem Qm.at {w w':World} {B:Nat} {q:Qu} {v0 v1 v2 v3 v4 v5:Value} (h:Qm w B q v0 v1 v2 v3 v4 v5) (hB:B≤w.heap.size) (hb:Below w.heap.size w w'):Qm w' B q v0 v1 v2 v3 v4 v5:=Qm.keep (hb.mono hB) q h
def tstB (d z v:Int):Bool:=if d=1 then v == z else if d=2 then decide (v < z) else if d=3 then decide (v≤z) else if d=4 then decide (z < v) else if d=5 then decide (z≤v) else !(v == z)
abbrev holV (d:Int) (p:Nat):Value:=.func (.func (226 + d.toNat)) #[] #[.pointer (some ⟨p,0,none⟩)]
theorem hold_ok (d z:Int) (w:World) (hd:doB d=true) :
  Calls Tryz.prog 209 #[.int .i64 d,.int .i64 z] w fun e w'=>e=.returned (holV d w.heap.size)∧w' = w.alloc (.cells #[.int .i64 z] 3):=by
 have hmf:=hmf
 simp only [doB,decide_eq_true_eq] at hd
 go_enter Tryz.func209,Tryz.ntmps209
 by_cases h1:d=1
 ·subst h1; go_wp2; go_ret; exact ⟨rfl,rfl⟩
 by_cases h2:d=2
 ·subst h2; go_wp2; go_ret; exact ⟨rfl,rfl⟩
 by_cases h3:d=3
 ·subst h3; go_wp2; go_ret; exact ⟨rfl,rfl⟩
 by_cases h4:d=4
 ·subst h4; go_wp2; go_ret; exact ⟨rfl,rfl⟩
 by_cases h5:d=5
 ·subst h5; go_wp2; go_ret; exact ⟨rfl,rfl⟩
 obtain rfl:d=6:=by omega
 go_wp2; go_ret; exact ⟨rfl,rfl⟩
theorem hold_no (d z:Int) (w:World) (hd:doB d=false) :
  Calls Tryz.prog 209 #[.int .i64 d,.int .i64 z] w fun e w'=>e=.panicked (chn 1)∧Below w.heap.size w w':=by
 have g1:(d == 1)=false:=by rw [beq_eq_false_iff_ne]; rintro rfl; simp [doB] at hd
 have g2:(d == 2)=false:=by rw [beq_eq_false_iff_ne]; rintro rfl; simp [doB] at hd
 have g3:(d == 3)=false:=by rw [beq_eq_false_iff_ne]; rintro rfl; simp [doB] at hd
 have g4:(d == 4)=false:=by rw [beq_eq_false_iff_ne]; rintro rfl; simp [doB] at hd
 have g5:(d == 5)=false:=by rw [beq_eq_false_iff_ne]; rintro rfl; simp [doB] at hd
 have g6:(d == 6)=false:=by rw [beq_eq_false_iff_ne]; rintro rfl; simp [doB] at hd
 clear hd
 go_enter Tryz.func209,Tryz.ntmps209
 go_wp2
 exact ⟨rfl,rfl,ba _ _⟩
theorem tst_any (d z v:Int) (p:Nat) (w:World) (hd:doB d=true) (hc:w.cell? ⟨p,0,none⟩=some (.int .i64 z)) :
  Calls Tryz.prog (226 + d.toNat) #[.int .i64 v,.pointer (some ⟨p,0,none⟩)] w fun e w'=>e=.returned (.bool (tstB d z v))∧w' = w:=by
 simp only [doB,decide_eq_true_eq] at hd
 by_cases h1:d=1
 ·subst h1; go_enter Tryz.func227,Tryz.ntmps227; go_wp2; go_ret; exact ⟨rfl,rfl⟩
 by_cases h2:d=2
 ·subst h2; go_enter Tryz.func228,Tryz.ntmps228; go_wp2; go_ret; exact ⟨rfl,rfl⟩
 by_cases h3:d=3
 ·subst h3; go_enter Tryz.func229,Tryz.ntmps229; go_wp2; go_ret; exact ⟨rfl,rfl⟩
 by_cases h4:d=4
 ·subst h4; go_enter Tryz.func230,Tryz.ntmps230; go_wp2; go_ret; exact ⟨rfl,rfl⟩
 by_cases h5:d=5
 ·subst h5; go_enter Tryz.func231,Tryz.ntmps231; go_wp2; go_ret; exact ⟨rfl,rfl⟩
 obtain rfl:d=6:=by omega
 go_enter Tryz.func232,Tryz.ntmps232; go_wp2; go_ret; exact ⟨rfl,rfl⟩
theorem Ints.slice {w:World} {B nb:Nat} {v:Value} {xs:List Int} (h:Ints w B nb v xs):∃ a c,v=.slice a xs.length c∧xs.length≤c∧xs.length≤9223372036854775807:=by
 obtain ⟨a,c,hv,hc,hl,_⟩:=h
 exact ⟨a,c,hv,hc,hl⟩
theorem Ints.get {w wr:World} {B nb:Nat} {a:Option Addr} {n c:Nat} {xs:List Int} (h:Ints w B nb (.slice a n c) xs) (hB:B≤w.heap.size) (hb:Below w.heap.size w wr) {i:Nat} (hi:i < xs.length) :
  ∃ b o x,a=some ⟨b,o,none⟩∧b < B∧b≠nb∧xs[i]? = some x∧wr.cell? ⟨b,o + i,none⟩=some (.int .i64 x):=by
 obtain ⟨a',c',hv,_,_,hx⟩:=h.at hB hb
 simp only [Value.slice.injEq] at hv
 obtain ⟨rfl,rfl,rfl⟩:=hv
 obtain ⟨b,o,rfl,hbB,hn,hcell⟩:=hx (ne_of_lt hi)
 obtain ⟨x,hx⟩:=get_lt hi
 exact ⟨b,o,x,rfl,hbB,hn,hx,hcell i _ hx⟩
set_option maxHeartbeats 1000000 in
theorem wrongRow_any (B Bi nb:Nat) (v u:Value) (l:List Col) (r:List Int) (w:World) (hB:B≤w.heap.size) (hp:Cols w B v l) (hBi:Bi≤w.heap.size) (hq:Ints w Bi nb u r) (er:Int) (hr:rowE l r=er) :
  Calls Tryz.prog 123 #[v,u] w fun e w'=>e=.returned (.int .i64 er)∧w' = w:=by
 have HP:Hid (Cols w B v l):=hp
 have HQ:Hid (Ints w Bi nb u r):=hq
 have HR:Hid (rowE l r=er):=hr
 obtain ⟨a,c,rfl,hc,hl⟩:=hp.slice
 obtain ⟨a2,c2,rfl,hc2,hl2⟩:=hq.slice
 clear hr
 go_enter Tryz.func123,Tryz.ntmps123
 by_cases hlen:l.length=r.length
 ·have hle:(((r.length:Int)) != (l.length:Int))=false:=by simp [hlen]
  have HLN:Hid (l.length=r.length):=hlen
  have HE:Hid (rowE l r=rowL l r):=by show _=_; rw [rowE,if_pos hlen]
  clear hlen
  go_wp2
  go_loopw [14] (fun s wr=>∃ (i:Nat),s=.int .i64 (i:Int)∧i≤r.length∧Hid (rowL (l.drop i) (r.drop i)=er)∧wr=w) (fun s _=>r.length - (intOf s).toNat)
  case atStart=>exact ⟨0,rfl,Nat.zero_le _,by show _=_; simpa using HE.out.symm.trans HR.out,rfl⟩
  case round =>
   obtain ⟨i,rfl,hi,HI,rfl⟩:=hrel
   by_cases h1:i < r.length
   ·obtain ⟨b,o,nm,sz,rfl,hb,hg,c1,c2,hn⟩:=HP.out.get hB (Below.refl _ _) (i:=i) (by have:=HLN.out; omega)
    obtain ⟨b2,o2,x,rfl,hb2,_,hg2,e1⟩:=HQ.out.get hBi (Below.refl _ _) h1
    have z1:(i:Int) < (l.length:Int):=by have:=HLN.out; omega
    have ST:Hid (er=if x < 0∨sz≤x then 3 else rowL (l.drop (i + 1)) (r.drop (i + 1))):=HI.out.symm.trans (rowL_step hg hg2)
    clear hg hg2 HI
    by_cases hx0:x < 0
    ·obtain rfl:er=3:=by rw [ST.out,if_pos (.inl hx0)]
     go_wp2
     go_ret
     exact ⟨rfl,rfl⟩
    ·by_cases hx1:sz≤x
     ·obtain rfl:er=3:=by rw [ST.out,if_pos (.inr hx1)]
      go_wp2
      go_ret
      exact ⟨rfl,rfl⟩
     ·have HI2:Hid (rowL (l.drop (i + 1)) (r.drop (i + 1))=er):=by show _=_; rw [ST.out,if_neg (by omega)]
      go_wp2
      go_roundw
      case rel=>exact ⟨i + 1,by go_num,h1,HI2,trivial⟩
      case measure=>simp [intOf]; omega
   ·obtain rfl:0=er:=by have:=HI.out; rw [show r.drop i=[] from List.drop_eq_nil_of_le (by omega)] at this; rw [← this]; cases l.drop i <;> rfl
    go_wp2
    go_ret
    exact ⟨rfl,rfl⟩
 ·have hle:(((r.length:Int)) != (l.length:Int))=true:=by simp; omega
  obtain rfl:8=er:=by rw [← HR.out,rowE,if_neg hlen]
  go_wp2
  go_ret
  exact ⟨rfl,rfl⟩
end Go.Proofs.YtlndlpjadajelaaGreat.K
