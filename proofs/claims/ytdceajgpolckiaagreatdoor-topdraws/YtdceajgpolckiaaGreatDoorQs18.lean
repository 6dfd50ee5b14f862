import Derived.Test.YtdceajgpolckiaaGreatDoorQs17
import Derived.Deep.RegionHeld3
import Derived.BigRegion
import Derived.Laws.MakeOwn
import Derived.Laws.OwnMore
open Go.Proofs.Tryz
set_option linter.unusedSimpArgs false
set_option maxHeartbeats 16000000
set_option maxRecDepth 100000
namespace Go.Proofs.YtdceajgpolckiaaGreatDoor
namespace K
open Go.RowKit K.Ds
def chn (e:Int):List PanicEntry:=[{ v:=.iface 201 (.agg #[.int .i64 e]),recovered:=false }]
theorem sG (e:Int)(w:World):Calls prog 58 #[.bool true,.int .i64 e] w fun x w'=>x=.returned (.tuple #[])/\w' = w:=by
 go_enter func58,ntmps58;go_wp2;go_end0;exact⟨rfl,rfl⟩
theorem bV (e:Int)(w:World):Calls prog 58 #[.bool false,.int .i64 e] w fun x w'=>x=.panicked (chn e)/\w' = w:=by
 go_enter func58,ntmps58;go_wp2;exact⟨rfl,rfl,rfl⟩
theorem o6 (w:World):Calls prog 77 #[.int .i64 0] w fun x w'=>x=.returned (.tuple #[])/\w' = w:=by
 go_enter func77,ntmps77;go_wp2_with fail;refine(sG 0 w).mono ?_;rintro e w1 ⟨rfl,rfl⟩;go_wp2;go_end0;exact⟨rfl,rfl⟩
theorem b7 (e:Int)(he:e≠0)(w:World):Calls prog 77 #[.int .i64 e] w fun x w'=>x=.panicked (chn e)/\w' = w:=by
 have hq:(e == 0)=false:=by simpa using he
 go_enter func77,ntmps77;go_wp2_with fail;refine(bV e w).mono ?_;rintro x w1 ⟨rfl,rfl⟩;go_wp2;exact⟨rfl,rfl,rfl⟩
theorem dT (v:Value)(w:World):(Instr.typeAssert (.iface 201 v) 20 201 true).run prog w=.ok (.tuple #[v,.bool true]) w:=by
 simp[Instr.typeAssert,run_underlying underlying201]
theorem eT (v:Value)(w:World):(binOp .eql 20 (.iface 201 v) .nilIface).run prog w=.ok (.bool false) w:=by
 have h:∀ d:Nat,(Op.equalIn (d+1) 20 (.iface 201 v) .nilIface).run prog w=.ok false w:=fun d=>by simp[Op.equalIn,run_underlying underlying20]
 simp only[binOp];simp[Op.equal,Op.maxDepth,h 9999]
theorem hmf:∀ (fn:Fn) (first cap:Array Value) (w:World),(Instr.makeFunc fn first cap).run prog w=.ok (.func fn first cap) w:=fun _ _ _ _=>rfl
structure Cl (w:World) (b k:Nat) (v:Value):Prop where
 c:w.cell? ⟨b,k,none⟩=some v
 f:w.frozen? ⟨b,k,none⟩=false
 lt:b<w.heap.size
theorem Cl.at {w w':World}{b k:Nat}{v:Value}(h:Cl w b k v)(hb:Below w.heap.size w w'):Cl w' b k v :=
 ⟨(hb.cell (p:=⟨b,k,none⟩) h.lt).trans h.c,(hb.frozen (p:=⟨b,k,none⟩) h.lt).trans h.f,zX h.lt hb.size⟩
theorem Cl.new {w:World}{N:Nat}(cs:Array Value)(t:TypeId)(k:Nat)(x:Value)(hN:N=w.heap.size)(hx:cs[k]? = some x):Cl (w.alloc (.cells cs t)) N k x :=
 ⟨nc cs t k x hN hx,nf cs t k hN,by subst hN;simp⟩
theorem Cl.set {w:World}{b k:Nat}{v:Value}(h:Cl w b k v)(u:Value):Cl (w.setCell ⟨b,k,none⟩ u) b k u :=
 ⟨gV h.c,cZ.trans h.f,by simpa using h.lt⟩
theorem Cl.oth {w:World}{b k b' k':Nat}{v:Value}(h:Cl w b k v)(hne:b'≠b\/k'≠k)(u:Value):Cl (w.setCell ⟨b',k',none⟩ u) b k v :=
 ⟨(rQ (by intro e;simp only[sD] at e;omega)).trans h.c,cZ.trans h.f,by simpa using h.lt⟩
theorem b2Q (p:Nat)(x:Value)(e:Int)(w:World)(hc:Cl w p 0 x) :
  CallsD prog 142 #[.pointer (some ⟨p,0,none⟩)] (.panicking (chn e)) w fun r u' w' =>
   r=.returned (.tuple #[])/\u' = .panicking [{ v:=.iface 201 (.agg #[.int .i64 e]),recovered:=true }]/\w' = (w.alloc (.cells #[.int .i64 e] 201)).setCell ⟨p,0,none⟩ (.int .i64 e):=by
 refine oN func142 rfl fun c₀ cs hu=>?_;apply wpS_seq;apply wpS_region;simp[wpOpsS,go_sem,recoverD,hu,chn,ntmps142,Exit.thenS];refine wpS_of_wp ?_;change Code.wp prog _ _ { tmps:=#[.pointer (some ⟨p,0,none⟩),undef,undef,undef,.iface 201 (.agg #[.int .i64 e]),undef,undef,undef,undef,undef,undef,undef],defers:=[] } w;have ha:=dT;have hq:=eT;have hz2:=(hc.at (ba w (.cells #[.int .i64 e] 201))).f;have hz3:=(hc.at (ba w (.cells #[.int .i64 e] 201))).c;go_wp2;exact⟨rfl,_,rfl,_,fK rfl _ _ _,rfl,rfl,rfl⟩
theorem b2X (p:Addr)(w:World) :
  CallsD prog 142 #[.pointer (some p)] .returning w fun r u' w'=>r=.returned (.tuple #[])/\u' = .returning/\w' = w:=by
 refine oN func142 rfl fun c₀ cs hu=>?_;apply wpS_seq;apply wpS_region;simp[wpOpsS,go_sem,recoverD,hu,ntmps142,Exit.thenS];refine wpS_of_wp ?_;change Code.wp prog _ _ { tmps:=#[.pointer (some p),undef,undef,undef,.nilIface,undef,undef,undef,undef,undef,undef,undef],defers:=[] } w;go_wp2;exact⟨rfl,.returning,by rw[<-hu],_,fK rfl _ _ _,rfl,rfl,rfl⟩
theorem b2Z (caps:Array Value)(b1 b2 b3:Int)(w:World)(kc:∀ W,Below w.heap.size w W->w.heap.size+2<=W.heap.size->Calls prog 84 caps W fun x w'=>x=.returned (.agg #[.int .i64 b1,.int .i64 b2,.int .i64 b3])/\Below W.heap.size W w') :
  Calls prog 83 #[.func (.func 84) #[] caps] w fun e w'=>e=.returned (.tuple #[.agg #[.int .i64 b1,.int .i64 b2,.int .i64 b3],.int .i64 0])/\Below w.heap.size w w':=by
 have hmf:=hmf;go_enter_defers func83,ntmps83;have k1:=kc ((w.alloc (.cells #[.int .i64 0,.int .i64 0,.int .i64 0] 123)).alloc (.cells #[.int .i64 0] 28)) (bal (ba _ _) _) (by simp);go_wp2_with fail;refine k1.mono ?_;rintro e w1 ⟨rfl,hb1⟩;have a0:=((Cl.new (w:=w) #[.int .i64 0,.int .i64 0,.int .i64 0] 123 0 _ rfl rfl).at (ba _ (.cells #[.int .i64 0] 28))).at hb1;have a1:=((Cl.new (w:=w) #[.int .i64 0,.int .i64 0,.int .i64 0] 123 1 _ rfl rfl).at (ba _ (.cells #[.int .i64 0] 28))).at hb1;have a2:=((Cl.new (w:=w) #[.int .i64 0,.int .i64 0,.int .i64 0] 123 2 _ rfl rfl).at (ba _ (.cells #[.int .i64 0] 28))).at hb1;have a3:=(Cl.new (w:=w.alloc (.cells #[.int .i64 0,.int .i64 0,.int .i64 0] 123)) (N:=w.heap.size+1) #[.int .i64 0] 28 0 _ (by simp) rfl).at hb1;have hbw:Below w.heap.size w w1:=bt (bal (ba _ _) _) hb1;have t0:=a0.c;have s0:=a0.f;have t1:=a1.c;have s1:=a1.f;have t2:=a2.c;have s2:=a2.f;have t3:=a3.c;have s3:=a3.f;clear hb1 k1 kc;go_wp2;refine pN (f:=142) (args:=#[.pointer (some ⟨w.heap.size+1,0,none⟩)]) (by simp) (by simp[go_sem]) ?_;refine(b2X _ _).mono ?_;rintro e u' w'' ⟨rfl,rfl,rfl⟩;have hbz:Below w.heap.size w ((((w1.setCell ⟨w.heap.size,0,none⟩ (.int .i64 b1)).setCell ⟨w.heap.size,1,none⟩ (.int .i64 b2)).setCell ⟨w.heap.size,2,none⟩ (.int .i64 b3)).setCell ⟨w.heap.size+1,0,none⟩ (.int .i64 0)):=bs (bs (bs (bs hbw (jQ _) _) (jQ _) _) (jQ _) _) (Nat.le_succ _) _;simp[Leaves,settle,results,results83,go_sem,t0,t1,t2,t3];exact hbz
theorem b2J (caps:Array Value)(er:Int)(w:World)(kc:∀ W,Below w.heap.size w W->w.heap.size+2<=W.heap.size->Calls prog 84 caps W fun x w'=>x=.panicked (chn er)/\Below W.heap.size W w') :
  Calls prog 83 #[.func (.func 84) #[] caps] w fun e w'=>e=.returned (.tuple #[.agg #[.int .i64 0,.int .i64 0,.int .i64 0],.int .i64 er])/\Below w.heap.size w w':=by
 have hmf:=hmf;go_enter_defers func83,ntmps83;have k1:=kc ((w.alloc (.cells #[.int .i64 0,.int .i64 0,.int .i64 0] 123)).alloc (.cells #[.int .i64 0] 28)) (bal (ba _ _) _) (by simp);go_wp2_with fail;refine k1.mono ?_;rintro e w1 ⟨rfl,hb1⟩;have a0:=((Cl.new (w:=w) #[.int .i64 0,.int .i64 0,.int .i64 0] 123 0 _ rfl rfl).at (ba _ (.cells #[.int .i64 0] 28))).at hb1;have a1:=((Cl.new (w:=w) #[.int .i64 0,.int .i64 0,.int .i64 0] 123 1 _ rfl rfl).at (ba _ (.cells #[.int .i64 0] 28))).at hb1;have a2:=((Cl.new (w:=w) #[.int .i64 0,.int .i64 0,.int .i64 0] 123 2 _ rfl rfl).at (ba _ (.cells #[.int .i64 0] 28))).at hb1;have a3:=(Cl.new (w:=w.alloc (.cells #[.int .i64 0,.int .i64 0,.int .i64 0] 123)) (N:=w.heap.size+1) #[.int .i64 0] 28 0 _ (by simp) rfl).at hb1;have hbw:Below w.heap.size w w1:=bt (bal (ba _ _) _) hb1;have t0:=a0.c;have s0:=a0.f;have t1:=a1.c;have s1:=a1.f;have t2:=a2.c;have s2:=a2.f;have t3:=a3.c;have s3:=a3.f;clear hb1 k1 kc;go_wp2;refine pN (f:=142) (args:=#[.pointer (some ⟨w.heap.size+1,0,none⟩)]) (by simp) (by simp[go_sem]) ?_;refine(b2Q _ _ _ _ a3).mono ?_;rintro e u' w'' ⟨rfl,rfl,rfl⟩;have hbz:Below w.heap.size w ((w1.alloc (.cells #[.int .i64 er] 201)).setCell ⟨w.heap.size+1,0,none⟩ (.int .i64 er)):=bs (bal hbw _) (Nat.le_succ _) _;have r0:=(a0.at (ba _ (.cells #[.int .i64 er] 201))).c;have r1:=(a1.at (ba _ (.cells #[.int .i64 er] 201))).c;have r2:=(a2.at (ba _ (.cells #[.int .i64 er] 201))).c;have r3:=(a3.at (ba _ (.cells #[.int .i64 er] 201))).c;simp[Leaves,settle,results,results83,go_sem,r0,r1,r2,r3];exact hbz
theorem b3Q (p:Nat)(x:Value)(e:Int)(w:World)(hc:Cl w p 0 x) :
  CallsD prog 123 #[.pointer (some ⟨p,0,none⟩)] (.panicking (chn e)) w fun r u' w' =>
   r=.returned (.tuple #[])/\u' = .panicking [{ v:=.iface 201 (.agg #[.int .i64 e]),recovered:=true }]/\w' = (w.alloc (.cells #[.int .i64 e] 201)).setCell ⟨p,0,none⟩ (.int .i64 e):=by
 refine oN func123 rfl fun c₀ cs hu=>?_;apply wpS_seq;apply wpS_region;simp[wpOpsS,go_sem,recoverD,hu,chn,ntmps123,Exit.thenS];refine wpS_of_wp ?_;change Code.wp prog _ _ { tmps:=#[.pointer (some ⟨p,0,none⟩),undef,undef,undef,.iface 201 (.agg #[.int .i64 e]),undef,undef,undef,undef,undef,undef,undef],defers:=[] } w;have ha:=dT;have hq:=eT;have hz2:=(hc.at (ba w (.cells #[.int .i64 e] 201))).f;have hz3:=(hc.at (ba w (.cells #[.int .i64 e] 201))).c;go_wp2;exact⟨rfl,_,rfl,_,fK rfl _ _ _,rfl,rfl,rfl⟩
theorem b3X (p:Addr)(w:World) :
  CallsD prog 123 #[.pointer (some p)] .returning w fun r u' w'=>r=.returned (.tuple #[])/\u' = .returning/\w' = w:=by
 refine oN func123 rfl fun c₀ cs hu=>?_;apply wpS_seq;apply wpS_region;simp[wpOpsS,go_sem,recoverD,hu,ntmps123,Exit.thenS];refine wpS_of_wp ?_;change Code.wp prog _ _ { tmps:=#[.pointer (some p),undef,undef,undef,.nilIface,undef,undef,undef,undef,undef,undef,undef],defers:=[] } w;go_wp2;exact⟨rfl,.returning,by rw[<-hu],_,fK rfl _ _ _,rfl,rfl,rfl⟩
theorem b3Z (caps:Array Value)(Q:Value->World->Prop)(w:World)(kc:∀ W,Below w.heap.size w W->w.heap.size+1<=W.heap.size->Calls prog 76 caps W fun x w'=>∃ V,x=.returned V/\Q V w'/\Below W.heap.size W w') :
  Calls prog 75 #[.func (.func 76) #[] caps] w fun e w'=>∃ V w1,e=.returned (.tuple #[V,.int .i64 0])/\Q V w1/\Below w.heap.size w w1/\w' = w1.setCell ⟨w.heap.size,0,none⟩ (.int .i64 0):=by
 have hmf:=hmf;go_enter_defers func75,ntmps75;have k1:=kc (w.alloc (.cells #[.int .i64 0] 28)) (ba _ _) (by simp);go_wp2_with fail;refine k1.mono ?_;rintro e w1 ⟨V,rfl,hQ,hb1⟩;have a0:=(Cl.new (w:=w) #[.int .i64 0] 28 0 _ rfl rfl).at hb1;have hbw:Below w.heap.size w w1:=bt (ba _ _) hb1;have t0:=a0.c;have s0:=a0.f;clear hb1 k1 kc;go_wp2;refine pN (f:=123) (args:=#[.pointer (some ⟨w.heap.size,0,none⟩)]) (by simp) (by simp[go_sem]) ?_;refine(b3X _ _).mono ?_;rintro e u' w'' ⟨rfl,rfl,rfl⟩;simp[Leaves,settle,results,results75,go_sem,t0];exact⟨_,hQ,hbw,rfl⟩
theorem b3J (caps:Array Value)(er:Int)(w:World)(kc:∀ W,Below w.heap.size w W->w.heap.size+1<=W.heap.size->Calls prog 76 caps W fun x w'=>x=.panicked (chn er)/\Below W.heap.size W w') :
  Calls prog 75 #[.func (.func 76) #[] caps] w fun e w'=>e=.returned (.tuple #[.slice none 0 0,.int .i64 er])/\Below w.heap.size w w':=by
 have hmf:=hmf;go_enter_defers func75,ntmps75;have k1:=kc (w.alloc (.cells #[.int .i64 0] 28)) (ba _ _) (by simp);go_wp2_with fail;refine k1.mono ?_;rintro e w1 ⟨rfl,hb1⟩;have a0:=(Cl.new (w:=w) #[.int .i64 0] 28 0 _ rfl rfl).at hb1;have hbw:Below w.heap.size w w1:=bt (ba _ _) hb1;have t0:=a0.c;have s0:=a0.f;clear hb1 k1 kc;go_wp2;refine pN (f:=123) (args:=#[.pointer (some ⟨w.heap.size,0,none⟩)]) (by simp) (by simp[go_sem]) ?_;refine(b3Q _ _ _ _ a0).mono ?_;rintro e u' w'' ⟨rfl,rfl,rfl⟩;have hbz:Below w.heap.size w ((w1.alloc (.cells #[.int .i64 er] 201)).setCell ⟨w.heap.size,0,none⟩ (.int .i64 er)):=bs (bal hbw _) (jQ _) _;have r0:=(a0.at (ba _ (.cells #[.int .i64 er] 201))).c;simp[Leaves,settle,results,results75,go_sem,r0];exact hbz
theorem i7 (g:Nat)(n1 n2:ByteArray)(s1:Int)(w:World)(hg:g<w.heap.size)(hc:w.cell? ⟨g,0,none⟩=some (.string n2))(r:Bool)(hr:decide (n1=n2)=r) :
  Calls prog 103 #[.agg #[.string n1,.int .i64 s1],.pointer (some ⟨g,0,none⟩)] w fun e w'=>e=.returned (.bool r)/\Below w.heap.size w w':=by
 have hq:(n1.toList == n2.toList)=r:=(cT _ _).trans hr;clear hr;go_enter func103,ntmps103;go_wp2;go_ret;exact⟨rfl,ba _ _⟩
def vI (l:List vQ) (s:ByteArray):Int:=match fnd l s with|some i=>i|none=>-1
theorem l7 {l:List vQ}{s:ByteArray}{i:Nat}(h:fnd l s=some i):vI l s=i:=by rw[vI,h]
theorem o7 {l:List vQ}{s:ByteArray}(h:fnd l s=none):vI l s = -1:=by rw[vI,h]
theorem j8 (B g:Nat)(v:Value)(l:List vQ)(nm0:ByteArray)(w:World)(hB:B<=w.heap.size)(hp:dQ w B v l)(hg:g<w.heap.size)(hc0:w.cell? ⟨g,0,none⟩=some (.string nm0))(r:Int)(hr:vI l nm0=r) :
  Calls prog 102 #[v,.func (.func 103) #[] #[.pointer (some ⟨g,0,none⟩)]] w fun e w'=>e=.returned (.int .i64 r)/\Below w.heap.size w w':=by
 have HP:Hid (dQ w B v l):=hp;have HR:Hid (vI l nm0=r):=hr;have HC0:Hid (w.cell? ⟨g,0,none⟩=some (.string nm0)):=hc0;obtain⟨a,c,rfl,hc,hl⟩:=hp.slice;clear hr hc0;go_enter func102,ntmps102;go_wp2
 go_loopw [8] (fun s wr=>∃ (i:Nat),s=.int .i64 (i:Int)/\i<=l.length/\Hid (tK l nm0 i)/\Below w.heap.size w wr) (fun s _=>l.length - (intOf s).toNat)
 case atStart=>exact⟨0,rfl,mQ _,fun j c hj=>by omega,uQ _ _⟩
 case round =>
  obtain⟨i,rfl,hi,HI,hbl⟩:=hrel;by_cases h1:i<l.length
  ·obtain⟨b,o,nm,sz,rfl,hb,hgt,c1,c2,hn⟩:=HP.out.get hB hbl h1
   have HG:Hid (l[i]? = some (nm,sz)):=hgt;clear hgt;have hgr:g<wr.heap.size:=zX hg hbl.size;have HCR:Hid (wr.cell? ⟨g,0,none⟩=some (.string nm0)):=(hbl.cell (p:=⟨g,0,none⟩) hg).trans HC0.out;cases he:decide (nm=nm0) with
   | true =>
    have HE:Hid (decide (nm=nm0)=true):=he;clear he;obtain rfl:(i:Int)=r:=by rw[<-HR.out];exact(l7 (b0J HI.out HG.out (eH HE.out))).symm
    go_wp2_with fail;refine(i7 g nm nm0 sz _ hgr HCR.out true HE.out).mono ?_;rintro e w1 ⟨rfl,hb1⟩;go_wp2;go_ret;exact⟨rfl,bt hbl hb1⟩
   | false =>
    have HE:Hid (decide (nm=nm0)=false):=he;clear he;go_wp2_with fail;refine(i7 g nm nm0 sz _ hgr HCR.out false HE.out).mono ?_;rintro e w1 ⟨rfl,hb1⟩;go_wp2
    go_roundw
    case rel=>exact⟨i+1,by go_num,h1,HI.out.next HG.out (wL HE.out),bt hbl hb1⟩
    case measure=>simp[intOf];omega
  ·obtain rfl:-1=r:=by rw[<-HR.out];exact(o7 (b1Q (by have:=HI.out;rwa [show i=l.length by omega] at this))).symm
   go_wp2;go_ret;exact⟨rfl,hbl⟩
theorem qL (B:Nat)(v:Value)(l:List vQ)(s:ByteArray)(w:World)(hB:B<=w.heap.size)(hp:dQ w B v l)(i:Nat)(hr:fnd l s=some i) :
  Calls prog 56 #[v,.string s] w fun e w'=>e=.returned (.int .i64 (i:Int))/\Below w.heap.size w w':=by
 have HI:Hid (vI l s=(i:Int)):=l7 hr;have k1:=j8 B w.heap.size v l s (w.alloc (.cells #[.string s] 9)) (by simp;omega) (hp.at hB (ba _ _)) (by simp) (nc _ _ 0 _ rfl rfl) _ HI.out;clear hp hr;have hmf:=hmf;go_enter func56,ntmps56;go_wp2_with fail;refine k1.mono ?_;rintro e w1 ⟨rfl,hb1⟩;clear k1;have hbw:Below w.heap.size w w1:=bt (ba _ _) hb1;clear hb1;go_wp2_with fail;refine(sG 7 w1).mono ?_;rintro e w2 ⟨rfl,rfl⟩;go_wp2;go_ret;exact⟨rfl,hbw⟩
theorem nO (B:Nat)(v:Value)(l:List vQ)(s:ByteArray)(w:World)(hB:B<=w.heap.size)(hp:dQ w B v l)(hr:fnd l s=none) :
  Calls prog 56 #[v,.string s] w fun e w'=>e=.panicked (chn 7)/\Below w.heap.size w w':=by
 have HI:Hid (vI l s = -1):=o7 hr;have k1:=j8 B w.heap.size v l s (w.alloc (.cells #[.string s] 9)) (by simp;omega) (hp.at hB (ba _ _)) (by simp) (nc _ _ 0 _ rfl rfl) _ HI.out;clear hp hr;have hmf:=hmf;go_enter func56,ntmps56;go_wp2_with fail;refine k1.mono ?_;rintro e w1 ⟨rfl,hb1⟩;clear k1;have hbw:Below w.heap.size w w1:=bt (ba _ _) hb1;clear hb1;go_wp2_with fail;refine(bV 7 w1).mono ?_;rintro e w2 ⟨rfl,rfl⟩;go_wp2;exact⟨rfl,rfl,hbw⟩
theorem b4Q (k:Int)(w:World)(n:Int)(hn:0<=n)(hk:uX k=n):Calls prog 124 #[.int .i64 k] w fun e w'=>e=.returned (.int .i64 n)/\w' = w:=by
 unfold uX at hk;go_enter func124,ntmps124;by_cases h1:k=1
 ·subst h1;subst hk;go_wp2;go_ret;exact⟨rfl,rfl⟩
 by_cases h2:k=2
 ·subst h2;subst hk;go_wp2;go_ret;exact⟨rfl,rfl⟩
 by_cases h3:k=3
 ·subst h3;subst hk;go_wp2;go_ret;exact⟨rfl,rfl⟩
 by_cases h4:k=4
 ·subst h4;subst hk;go_wp2;go_ret;exact⟨rfl,rfl⟩
 by_cases h5:k=5
 ·subst h5;subst hk;go_wp2;go_ret;exact⟨rfl,rfl⟩
 by_cases h6:k=6
 ·subst h6;subst hk;go_wp2;go_ret;exact⟨rfl,rfl⟩
 by_cases h7:k=7
 ·subst h7;subst hk;go_wp2;go_ret;exact⟨rfl,rfl⟩
 by_cases h8:k=8
 ·subst h8;subst hk;go_wp2;go_ret;exact⟨rfl,rfl⟩
 by_cases h9:k=9
 ·subst h9;subst hk;go_wp2;go_ret;exact⟨rfl,rfl⟩
 by_cases h10:k=10
 ·subst h10;subst hk;go_wp2;go_ret;exact⟨rfl,rfl⟩
 exfalso;simp[h1,h2,h3,h4,h5,h6,h7,h8,h9,h10] at hk;omega
theorem b4X (k:Int)(w:World)(hk:uX k<0):Calls prog 124 #[.int .i64 k] w fun e w'=>e=.panicked (chn 1)/\w' = w:=by
 have g1:(k == 1)=false:=by rw[yU];rintro rfl;simp[uX] at hk
 have g2:(k == 2)=false:=by rw[yU];rintro rfl;simp[uX] at hk
 have g3:(k == 3)=false:=by rw[yU];rintro rfl;simp[uX] at hk
 have g4:(k == 4)=false:=by rw[yU];rintro rfl;simp[uX] at hk
 have g5:(k == 5)=false:=by rw[yU];rintro rfl;simp[uX] at hk
 have g6:(k == 6)=false:=by rw[yU];rintro rfl;simp[uX] at hk
 have g7:(k == 7)=false:=by rw[yU];rintro rfl;simp[uX] at hk
 have g8:(k == 8)=false:=by rw[yU];rintro rfl;simp[uX] at hk
 have g9:(k == 9)=false:=by rw[yU];rintro rfl;simp[uX] at hk
 have g10:(k == 10)=false:=by rw[yU];rintro rfl;simp[uX] at hk
 clear hk;go_enter func124,ntmps124;go_wp2;exact⟨rfl,rfl,rfl⟩
theorem fT (lo hi:Int)(w:World)(h:aV lo hi=true):Calls prog 181 #[.int .i64 lo,.int .i64 hi] w fun e w'=>e=.returned (.int .i64 (spn lo hi))/\w' = w:=by
 simp only[aV,oJ] at h;obtain⟨h1,h2,h3⟩:=h;go_enter func181,ntmps181;go_wp2_with fail;refine(sG 3 w).mono ?_;rintro e w2 ⟨rfl,rfl⟩;go_wp2
 ·go_ret
  exact⟨by rw[spn,zQ (by omega)];rfl,rfl⟩
 ·go_ret
  exact⟨by rw[show spn lo hi = -lo by unfold spn;split <;> omega];rfl,rfl⟩
theorem gT (lo hi:Int)(w:World)(h:aV lo hi=false):Calls prog 181 #[.int .i64 lo,.int .i64 hi] w fun e w'=>e=.panicked (chn 3)/\w' = w:=by
 simp only[aV,decide_eq_false_iff_not] at h;go_enter func181,ntmps181;by_cases h1:-1048576<=lo
 ·by_cases h2:lo<=hi
  ·have h3:¬ hi<=1048576:=fun h3=>h ⟨h1,h2,h3⟩
   go_wp2_with fail;refine(bV 3 w).mono ?_;rintro e w2 ⟨rfl,rfl⟩;go_wp2;exact⟨rfl,rfl,rfl⟩
  ·go_wp2_with fail
   refine(bV 3 w).mono ?_;rintro e w2 ⟨rfl,rfl⟩;go_wp2;exact⟨rfl,rfl,rfl⟩
 ·go_wp2_with fail
  refine(bV 3 w).mono ?_;rintro e w2 ⟨rfl,rfl⟩;go_wp2;exact⟨rfl,rfl,rfl⟩
def vZ (w:World) (B:Nat) (v:Value) (l:List tX):Prop :=
 ∃ a c,v=.slice a l.length c/\l.length<=c/\l.length<=9223372036854775807/\(∀ x∈l,x.1.size<=9223372036854775807) /\
  (l≠[]->∃ b o,a=some ⟨b,o,none⟩/\b<B/\∀ i x,l[i]? = some x->w.cell? ⟨b,o+i*3,none⟩=some (.string x.1)/\w.cell? ⟨b,o+i*3+1,none⟩=some (.int .i64 x.2.1)/\w.cell? ⟨b,o+i*3+2,none⟩=some (.int .i64 x.2.2))
theorem vZ.keep {w w':World}{B:Nat}{v:Value}{l:List tX}(h:vZ w B v l)(hb:Below B w w'):vZ w' B v l:=by
 obtain⟨a,c,hv,hc,hl,hn,hx⟩:=h;refine⟨a,c,hv,hc,hl,hn,fun hne=>?_⟩;obtain⟨b,o,ha,hB,hcell⟩:=hx hne;exact⟨b,o,ha,hB,fun i x hi=>⟨(hb.cell (p:=⟨b,o+i*3,none⟩) hB).trans (hcell i x hi).1,(hb.cell (p:=⟨b,o+i*3+1,none⟩) hB).trans (hcell i x hi).2.1,(hb.cell (p:=⟨b,o+i*3+2,none⟩) hB).trans (hcell i x hi).2.2⟩⟩
theorem vZ.at {w w':World}{B:Nat}{v:Value}{l:List tX}(h:vZ w B v l)(hB:B<=w.heap.size)(hb:Below w.heap.size w w'):vZ w' B v l:=h.keep (hb.mono hB)
theorem vZ.mono {w:World}{B B':Nat}{v:Value}{l:List tX}(h:vZ w B v l)(hB:B<=B'):vZ w B' v l:=by
 obtain⟨a,c,hv,hc,hl,hn,hx⟩:=h;refine⟨a,c,hv,hc,hl,hn,fun hne=>?_⟩;obtain⟨b,o,ha,hb,hcell⟩:=hx hne;exact⟨b,o,ha,by omega,hcell⟩
theorem vZ.slice {w:World}{B:Nat}{v:Value}{l:List tX}(h:vZ w B v l):∃ a c,v=.slice a l.length c/\l.length<=c/\l.length<=9223372036854775807:=by
 obtain⟨a,c,hv,hc,hl,_⟩:=h;exact⟨a,c,hv,hc,hl⟩
theorem vZ.get {w wr:World}{B:Nat}{a:Option Addr}{n c:Nat}{l:List tX}(h:vZ w B (.slice a n c) l)(hB:B<=w.heap.size)(hb:Below w.heap.size w wr){i:Nat}(hi:i<l.length) :
  ∃ b o nm d z,a=some ⟨b,o,none⟩/\b<B/\l[i]? = some (nm,d,z)/\wr.cell? ⟨b,o+i*3,none⟩=some (.string nm)/\wr.cell? ⟨b,o+i*3+1,none⟩=some (.int .i64 d)/\wr.cell? ⟨b,o+i*3+2,none⟩=some (.int .i64 z)/\nm.size<=9223372036854775807:=by
 obtain⟨a',c',hv,_,_,hn,hx⟩:=h.at hB hb;simp only[eJ] at hv;obtain⟨rfl,rfl,rfl⟩:=hv;obtain⟨b,o,rfl,hbB,hcell⟩:=hx (ne_of_lt hi);obtain⟨⟨nm,d,z⟩,hx⟩:=lX hi;exact⟨b,o,nm,d,z,rfl,hbB,hx,(hcell i _ hx).1,(hcell i _ hx).2.1,(hcell i _ hx).2.2,hn _ (vX hx)⟩
def wJ (w:World) (b o:Nat) (v0 v1 v2 v3 v4 v5:Value):Prop :=
 w.cell? ⟨b,o,none⟩=some v0/\w.cell? ⟨b,o+1,none⟩=some v1/\w.cell? ⟨b,o+2,none⟩=some v2/\w.cell? ⟨b,o+3,none⟩=some v3/\w.cell? ⟨b,o+4,none⟩=some v4/\w.cell? ⟨b,o+5,none⟩=some v5
theorem wJ.keep {w w':World}{B b o:Nat}{v0 v1 v2 v3 v4 v5:Value}(h:wJ w b o v0 v1 v2 v3 v4 v5)(hb:Below B w w')(hB:b<B):wJ w' b o v0 v1 v2 v3 v4 v5 :=
 ⟨(hb.cell (p:=⟨b,o,none⟩) hB).trans h.1,(hb.cell (p:=⟨b,o+1,none⟩) hB).trans h.2.1,(hb.cell (p:=⟨b,o+2,none⟩) hB).trans h.2.2.1,(hb.cell (p:=⟨b,o+3,none⟩) hB).trans h.2.2.2.1,(hb.cell (p:=⟨b,o+4,none⟩) hB).trans h.2.2.2.2.1,(hb.cell (p:=⟨b,o+5,none⟩) hB).trans h.2.2.2.2.2⟩
def Qm (w:World) (B:Nat):Qu->Value->Value->Value->Value->Value->Value->Prop
 | .none,_,_,_,_,_,_=>False
 | .node k c lo hi wh n x y,v0,v1,v2,v3,v4,v5 =>
  (v0=.int .i64 k/\v1=.string c/\v2=.int .i64 lo/\v3=.int .i64 hi/\c.size<=9223372036854775807/\vZ w B v4 wh/\∃ a cap,v5=.slice a n cap/\n<=cap/\n<=9223372036854775807 /\
   (1<=n->n<=2->∃ b o,a=some ⟨b,o,none⟩/\b<B/\(∃ u0 u1 u2 u3 u4 u5,wJ w b o u0 u1 u2 u3 u4 u5/\Qm w B x u0 u1 u2 u3 u4 u5) /\
    (2<=n->∃ u0 u1 u2 u3 u4 u5,wJ w b (o+6) u0 u1 u2 u3 u4 u5/\Qm w B y u0 u1 u2 u3 u4 u5)))
theorem Qm.keep {w w':World}{B:Nat}(hb:Below B w w')(q:Qu):∀ {v0 v1 v2 v3 v4 v5:Value},Qm w B q v0 v1 v2 v3 v4 v5->Qm w' B q v0 v1 v2 v3 v4 v5:=by
 induction q with
 | none=>intro v0 v1 v2 v3 v4 v5 h;exact h
 | node k c lo hi wh n x y ihx ihy =>
  rintro v0 v1 v2 v3 v4 v5 ⟨h0,h1,h2,h3,hc,hw,a,cap,h5,hn,hm,hk⟩;refine⟨h0,h1,h2,h3,hc,hw.keep hb,a,cap,h5,hn,hm,fun g1 g2=>?_⟩;obtain⟨b,o,ha,hB,⟨u0,u1,u2,u3,u4,u5,hx,hq⟩,h2⟩:=hk g1 g2;refine⟨b,o,ha,hB,⟨u0,u1,u2,u3,u4,u5,hx.keep hb hB,ihx hq⟩,fun g=>?_⟩;obtain⟨u0,u1,u2,u3,u4,u5,hx,hq⟩:=h2 g;exact⟨u0,u1,u2,u3,u4,u5,hx.keep hb hB,ihy hq⟩
theorem Qm.at {w w':World}{B:Nat}{q:Qu}{v0 v1 v2 v3 v4 v5:Value}(h:Qm w B q v0 v1 v2 v3 v4 v5)(hB:B<=w.heap.size)(hb:Below w.heap.size w w'):Qm w' B q v0 v1 v2 v3 v4 v5:=Qm.keep (hb.mono hB) q h
def xL (d z v:Int):Bool:=if d=1 then v == z else if d=2 then decide (v<z) else if d=3 then decide (v<=z) else if d=4 then decide (z<v) else if d=5 then decide (z<=v) else !(v == z)
abbrev kU (d:Int) (p:Nat):Value:=.func (.func (231+d.toNat)) #[] #[.pointer (some ⟨p,0,none⟩)]
theorem b4Z (d z:Int)(w:World)(hd:pV d=true) :
  Calls prog 204 #[.int .i64 d,.int .i64 z] w fun e w'=>e=.returned (kU d w.heap.size)/\w' = w.alloc (.cells #[.int .i64 z] 3):=by
 have hmf:=hmf;simp only[pV,oJ] at hd;go_enter func204,ntmps204;by_cases h1:d=1
 ·subst h1;go_wp2;go_ret;exact⟨rfl,rfl⟩
 by_cases h2:d=2
 ·subst h2;go_wp2;go_ret;exact⟨rfl,rfl⟩
 by_cases h3:d=3
 ·subst h3;go_wp2;go_ret;exact⟨rfl,rfl⟩
 by_cases h4:d=4
 ·subst h4;go_wp2;go_ret;exact⟨rfl,rfl⟩
 by_cases h5:d=5
 ·subst h5;go_wp2;go_ret;exact⟨rfl,rfl⟩
 obtain rfl:d=6:=by omega
 go_wp2;go_ret;exact⟨rfl,rfl⟩
theorem b4J (d z:Int)(w:World)(hd:pV d=false) :
  Calls prog 204 #[.int .i64 d,.int .i64 z] w fun e w'=>e=.panicked (chn 1)/\Below w.heap.size w w':=by
 have g1:(d == 1)=false:=by rw[yU];rintro rfl;simp[pV] at hd
 have g2:(d == 2)=false:=by rw[yU];rintro rfl;simp[pV] at hd
 have g3:(d == 3)=false:=by rw[yU];rintro rfl;simp[pV] at hd
 have g4:(d == 4)=false:=by rw[yU];rintro rfl;simp[pV] at hd
 have g5:(d == 5)=false:=by rw[yU];rintro rfl;simp[pV] at hd
 have g6:(d == 6)=false:=by rw[yU];rintro rfl;simp[pV] at hd
 clear hd;go_enter func204,ntmps204;go_wp2;exact⟨rfl,rfl,ba _ _⟩
theorem zL (d z v:Int)(p:Nat)(w:World)(hd:pV d=true)(hc:w.cell? ⟨p,0,none⟩=some (.int .i64 z)) :
  Calls prog (231+d.toNat) #[.int .i64 v,.pointer (some ⟨p,0,none⟩)] w fun e w'=>e=.returned (.bool (xL d z v))/\w' = w:=by
 simp only[pV,oJ] at hd;by_cases h1:d=1
 ·subst h1;go_enter func232,ntmps232;go_wp2;go_ret;exact⟨rfl,rfl⟩
 by_cases h2:d=2
 ·subst h2;go_enter func233,ntmps233;go_wp2;go_ret;exact⟨rfl,rfl⟩
 by_cases h3:d=3
 ·subst h3;go_enter func234,ntmps234;go_wp2;go_ret;exact⟨rfl,rfl⟩
 by_cases h4:d=4
 ·subst h4;go_enter func235,ntmps235;go_wp2;go_ret;exact⟨rfl,rfl⟩
 by_cases h5:d=5
 ·subst h5;go_enter func236,ntmps236;go_wp2;go_ret;exact⟨rfl,rfl⟩
 obtain rfl:d=6:=by omega
 go_enter func237,ntmps237;go_wp2;go_ret;exact⟨rfl,rfl⟩
theorem xQ.slice {w:World}{B nb:Nat}{v:Value}{xs:List Int}(h:xQ w B nb v xs):∃ a c,v=.slice a xs.length c/\xs.length<=c/\xs.length<=9223372036854775807:=by
 obtain⟨a,c,hv,hc,hl,_⟩:=h;exact⟨a,c,hv,hc,hl⟩
theorem xQ.get {w wr:World}{B nb:Nat}{a:Option Addr}{n c:Nat}{xs:List Int}(h:xQ w B nb (.slice a n c) xs)(hB:B<=w.heap.size)(hb:Below w.heap.size w wr){i:Nat}(hi:i<xs.length) :
  ∃ b o x,a=some ⟨b,o,none⟩/\b<B/\b≠nb/\xs[i]? = some x/\wr.cell? ⟨b,o+i,none⟩=some (.int .i64 x):=by
 obtain⟨a',c',hv,_,_,hx⟩:=h.at hB hb;simp only[eJ] at hv;obtain⟨rfl,rfl,rfl⟩:=hv;obtain⟨b,o,rfl,hbB,hn,hcell⟩:=hx (ne_of_lt hi);obtain⟨x,hx⟩:=lX hi;exact⟨b,o,x,rfl,hbB,hn,hx,hcell i _ hx⟩
theorem b5Q (B Bi nb:Nat)(v u:Value)(l:List vQ)(r:List Int)(w:World)(hB:B<=w.heap.size)(hp:dQ w B v l)(hBi:Bi<=w.heap.size)(hq:xQ w Bi nb u r)(er:Int)(hr:iU l r=er) :
  Calls prog 88 #[v,u] w fun e w'=>e=.returned (.int .i64 er)/\w' = w:=by
 have HP:Hid (dQ w B v l):=hp;have HQ:Hid (xQ w Bi nb u r):=hq;have HR:Hid (iU l r=er):=hr;obtain⟨a,c,rfl,hc,hl⟩:=hp.slice;obtain⟨a2,c2,rfl,hc2,hl2⟩:=hq.slice;clear hr;go_enter func88,ntmps88;by_cases hlen:l.length=r.length
 ·have hle:(((r.length:Int)) != (l.length:Int))=false:=by simp[hlen]
  have HLN:Hid (l.length=r.length):=hlen;have HE:Hid (iU l r=xF l r):=by show _=_;rw[iU,zQ hlen]
  clear hlen;go_wp2
  go_loopw [14] (fun s wr=>∃ (i:Nat),s=.int .i64 (i:Int)/\i<=r.length/\Hid (xF (l.drop i) (r.drop i)=er)/\wr=w) (fun s _=>r.length - (intOf s).toNat)
  case atStart=>exact⟨0,rfl,mQ _,by show _=_;simpa using HE.out.symm.trans HR.out,rfl⟩
  case round =>
   obtain⟨i,rfl,hi,HI,rfl⟩:=hrel;by_cases h1:i<r.length
   ·obtain⟨b,o,nm,sz,rfl,hb,hg,c1,c2,hn⟩:=HP.out.get hB (uQ _ _) (i:=i) (by have:=HLN.out;omega)
    obtain⟨b2,o2,x,rfl,hb2,_,hg2,e1⟩:=HQ.out.get hBi (uQ _ _) h1;have z1:(i:Int)<(l.length:Int):=by have:=HLN.out;omega
    have ST:Hid (er=if x<0\/sz<=x then 3 else xF (l.drop (i+1)) (r.drop (i+1))):=HI.out.symm.trans (bxJ hg hg2);clear hg hg2 HI;by_cases hx0:x<0
    ·obtain rfl:er=3:=by rw[ST.out,zQ (.inl hx0)]
     go_wp2;go_ret;exact⟨rfl,rfl⟩
    ·by_cases hx1:sz<=x
     ·obtain rfl:er=3:=by rw[ST.out,zQ (.inr hx1)]
      go_wp2;go_ret;exact⟨rfl,rfl⟩
     ·have HI2:Hid (xF (l.drop (i+1)) (r.drop (i+1))=er):=by show _=_;rw[ST.out,qQ (by omega)]
      go_wp2
      go_roundw
      case rel=>exact⟨i+1,by go_num,h1,HI2,trivial⟩
      case measure=>simp[intOf];omega
   ·obtain rfl:0=er:=by have:=HI.out;rw[show r.drop i=[] from uA (by omega)] at this;rw[<-this];cases l.drop i <;> rfl
    go_wp2;go_ret;exact⟨rfl,rfl⟩
 ·have hle:(((r.length:Int)) != (l.length:Int))=true:=by simp;omega
  obtain rfl:8=er:=by rw[<-HR.out,iU,qQ hlen]
  go_wp2;go_ret;exact⟨rfl,rfl⟩
abbrev Rw:=Value × List Int
def iQ (w:World) (B:Nat) (v:Value) (ts:List Rw):Prop :=
 ∃ a c,v=.slice a ts.length c/\ts.length<=c/\ts.length<=9223372036854775807/\(∀ t∈ts,xQ w B B t.1 t.2) /\
  (ts≠[]->∃ b o,a=some ⟨b,o,none⟩/\b<B/\∀ i t,ts[i]? = some t->w.cell? ⟨b,o+i,none⟩=some t.1)
def rr (ts:List Rw):List (List Int):=ts.map (·.2)
theorem tF (ts:List Rw):(rr ts).length=ts.length:=by simp[rr]
theorem dM {ts:List Rw}{i:Nat}{t:Rw}(h:ts[i]? = some t):(rr ts)[i]? = some t.2:=by simp[rr,h]
theorem iQ.keep {w w':World}{B:Nat}{v:Value}{ts:List Rw}(h:iQ w B v ts)(hb:Below B w w'):iQ w' B v ts:=by
 obtain⟨a,c,hv,hc,hl,hi,hx⟩:=h;refine⟨a,c,hv,hc,hl,fun t ht=>(hi t ht).keep hb,fun hne=>?_⟩;obtain⟨b,o,ha,hB,hcell⟩:=hx hne;exact⟨b,o,ha,hB,fun i t ht=>(hb.cell (p:=⟨b,o+i,none⟩) hB).trans (hcell i t ht)⟩
theorem iQ.at {w w':World}{B:Nat}{v:Value}{ts:List Rw}(h:iQ w B v ts)(hB:B<=w.heap.size)(hb:Below w.heap.size w w'):iQ w' B v ts:=h.keep (hb.mono hB)
theorem iQ.mono {w:World}{B B':Nat}{v:Value}{ts:List Rw}(h:iQ w B v ts)(hB:B<=B'):iQ w B' v ts:=by
 obtain⟨a,c,hv,hc,hl,hi,hx⟩:=h;refine⟨a,c,hv,hc,hl,fun t ht=>(hi t ht).mono hB (.inr hB),fun hne=>?_⟩;obtain⟨b,o,ha,hb,hcell⟩:=hx hne;exact⟨b,o,ha,by omega,hcell⟩
theorem iQ.slice {w:World}{B:Nat}{v:Value}{ts:List Rw}(h:iQ w B v ts):∃ a c,v=.slice a ts.length c/\ts.length<=c/\ts.length<=9223372036854775807:=by
 obtain⟨a,c,hv,hc,hl,_⟩:=h;exact⟨a,c,hv,hc,hl⟩
theorem iQ.get {w wr:World}{B:Nat}{a:Option Addr}{n c:Nat}{ts:List Rw}(h:iQ w B (.slice a n c) ts)(hB:B<=w.heap.size)(hb:Below w.heap.size w wr){i:Nat}(hi:i<ts.length) :
  ∃ b o sa sc xs,a=some ⟨b,o,none⟩/\b<B/\ts[i]? = some (.slice sa xs.length sc,xs)/\wr.cell? ⟨b,o+i,none⟩=some (.slice sa xs.length sc)/\xQ wr B B (.slice sa xs.length sc) xs:=by
 obtain⟨a',c',hv,_,_,hin,hx⟩:=h.at hB hb;simp only[eJ] at hv;obtain⟨rfl,rfl,rfl⟩:=hv;obtain⟨b,o,rfl,hbB,hcell⟩:=hx (ne_of_lt hi);obtain⟨⟨tv,xs⟩,ht⟩:=lX hi;have hI:=hin _ (vX ht);obtain⟨sa,sc,e,_⟩:=hI.slice;simp only at e;subst e;exact⟨b,o,sa,sc,xs,rfl,hbB,ht,hcell i _ ht,hI⟩
theorem wH (B:Nat)(cv rv:Value)(l:List vQ)(ts:List Rw)(w:World)(hB:B<=w.heap.size)(hp:dQ w B cv l)(hq:iQ w B rv ts)(er:Int)(hr:oZ l (rr ts)=er) :
  Calls prog 44 #[.agg #[cv,rv]] w fun e w'=>e=.returned (.int .i64 er)/\Below w.heap.size w w':=by
 have HP:Hid (dQ w B cv l):=hp;have HQ:Hid (iQ w B rv ts):=hq;have HR:Hid (oZ l (rr ts)=er):=hr;obtain⟨a,c,rfl,hc,hl⟩:=hp.slice;obtain⟨a2,c2,rfl,hc2,hl2⟩:=hq.slice;clear hr;obtain⟨ec,hec⟩:∃ ec,Hid (dY l=ec):=⟨_,rfl⟩;have kc:=lO B _ l (w.alloc (.cells #[.slice a l.length c,.slice a2 ts.length c2] 25)) (by simp;omega) (HP.out.at hB (ba _ _)) ec hec.out;have d0:(w.alloc (.cells #[.slice a l.length c,.slice a2 ts.length c2] 25)).cell? ⟨w.heap.size,0,none⟩=some (.slice a l.length c):=nc _ _ 0 _ rfl rfl;have d1:(w.alloc (.cells #[.slice a l.length c,.slice a2 ts.length c2] 25)).cell? ⟨w.heap.size,1,none⟩=some (.slice a2 ts.length c2):=nc _ _ 1 _ rfl rfl;go_enter func44,ntmps44;go_wp2_with fail;refine kc.mono ?_;rintro e w1 ⟨rfl,hb1⟩;have hbw:Below w.heap.size w w1:=bt (ba _ _) hb1;have f0:w1.cell? ⟨w.heap.size,0,none⟩=some (.slice a l.length c):=(hb1.cell (p:=⟨w.heap.size,0,none⟩) (by simp)).trans d0;have f1:w1.cell? ⟨w.heap.size,1,none⟩=some (.slice a2 ts.length c2):=(hb1.cell (p:=⟨w.heap.size,1,none⟩) (by simp)).trans d1;have hz1:w.heap.size<w1.heap.size:=by have:=hb1.size;simp at this;omega
 clear kc d0 d1 hb1;by_cases he0:ec=0
 ·subst he0
  have HE:Hid (oZ l (rr ts)=if 4096<ts.length then 4 else dD l (rr ts)):=by show _=_;rw[oZ,zQ hec.out,tF]
  by_cases h4:4096<ts.length
  ·obtain rfl:4=er:=by rw[<-HR.out,HE.out,zQ h4]
   go_wp2;go_ret;exact⟨rfl,hbw⟩
  ·go_wp2
   go_loopw [20] (fun s wr=>∃ (i:Nat),s=.int .i64 (i:Int)/\i<=ts.length/\Hid (dD l ((rr ts).drop i)=er)/\wr=w1) (fun s _=>ts.length - (intOf s).toNat)
   case atStart=>exact⟨0,rfl,mQ _,by show _=_;rw[aK,<-HR.out,HE.out,qQ h4],rfl⟩
   case round =>
    obtain⟨i,rfl,hi,HI,rfl⟩:=hrel;by_cases h1:i<ts.length
    ·obtain⟨b,o,sa,sc,xs,rfl,hb,hg,e1,hI⟩:=HQ.out.get hB hbw h1
     have HII:Hid (xQ wr B B (.slice sa xs.length sc) xs):=hI;have ST:Hid (er=if iU l xs=0 then dD l ((rr ts).drop (i+1)) else iU l xs):=HI.out.symm.trans (byQ (dM hg));clear hg hI HI;obtain⟨ew,hew⟩:∃ ew,Hid (iU l xs=ew):=⟨_,rfl⟩;have hBr:B<=wr.heap.size:=by omega
     have kc:=b5Q B B B _ _ l xs wr hBr (HP.out.at hB hbw) hBr HII.out ew hew.out;by_cases hw0:ew=0
     ·subst hw0
      have HI2:Hid (dD l ((rr ts).drop (i+1))=er):=by show _=_;rw[ST.out,zQ hew.out]
      go_wp2_with fail;refine kc.mono ?_;rintro e w2 ⟨rfl,rfl⟩;go_wp2
      go_roundw
      case rel=>exact⟨i+1,by go_num,h1,HI2,trivial⟩
      case measure=>simp[intOf];omega
     ·have hne:(ew != 0)=true:=by simpa using hw0
      obtain rfl:ew=er:=by rw[ST.out,hew.out,qQ hw0]
      go_wp2_with fail;refine kc.mono ?_;rintro e w2 ⟨rfl,rfl⟩;go_wp2;go_ret;exact⟨rfl,hbw⟩
    ·obtain rfl:0=er:=by have:=HI.out;rw[uA (by rw[tF];omega)] at this;exact this
     go_wp2;go_ret;exact⟨rfl,hbw⟩
 ·have hne:(ec != 0)=true:=by simpa using he0
  obtain rfl:ec=er:=by rw[<-HR.out,oZ,hec.out,qQ he0]
  go_wp2;go_ret;exact⟨rfl,hbw⟩
theorem vO:(prog.info? 3).map (fun i=>(i.zero,i.size,i.bytes))=some (some (.int .i64 0),1,8):=by kernel_rfl
structure RowI (w:World) (g:Nat) (xs:List Int):Prop where
 cells:∀ i x,xs[i]? = some x->w.cell? ⟨g,i,none⟩=some (.int .i64 x)
 thaw:∀ i,i<xs.length->w.frozen? ⟨g,i,none⟩=false
 lt:g<w.heap.size
theorem RowI.keep {w w':World}{g N:Nat}{xs:List Int}(h:RowI w g xs)(hb:Below N w w')(hg:g<N):RowI w' g xs :=
 ⟨fun i x hi=>(hb.cell (p:=⟨g,i,none⟩) hg).trans (h.cells i x hi),fun i hi=>(hb.frozen (p:=⟨g,i,none⟩) hg).trans (h.thaw i hi),zX h.lt hb.size⟩
theorem RowI.set {w:World}{g:Nat}{xs:List Int}(h:RowI w g xs)(i:Nat)(k:Int):RowI (w.setCell ⟨g,i,none⟩ (.int .i64 k)) g (xs.set i k):=by
 refine⟨fun j x hj=>?_,fun j hj=>by rw[cZ];exact h.thaw j (by simpa using hj),by simpa using h.lt⟩;by_cases e:i=j
 ·subst e
  have hi:i<xs.length:=by have:=(gQ.1 hj).1;simpa using this
  rw[cU hi] at hj;obtain rfl:k=x:=by simpa using hj
  obtain⟨y,hy⟩:=lX hi;exact gV (h.cells i y hy)
 ·rw[oU e] at hj
  rw[rQ (fun h=>e (congrArg Addr.off h))];exact h.cells j x hj
theorem RowI.made (w:World)(n:Nat):RowI (w.alloc (.cells (madeCells #[.int .i64 0] n) 3)) w.heap.size (List.replicate n 0):=by
 refine⟨fun i x hi=>?_,fun i _=>iR _ _ _ _ rfl,by simp⟩;have h1:i<n:=by have:=(gQ.1 hi).1;simpa using this
 obtain rfl:x=0:=by
  have:=(gQ.1 hi).2;simp at this;exact this.symm
 rw[dN _ _ _ _ rfl];simp[madeCells,h1,Nat.mod_one]
theorem jL (n:Nat)(hn:n<=1073741824)(u:World):(Instr.makeSlice 37 (.int .i64 (n:Int)) (.int .i64 (n:Int))).run prog u =
  .ok (.slice (some ⟨u.heap.size,0,none⟩) n n) (u.alloc (.cells (madeCells #[.int .i64 0] n) 3)):=by
 obtain⟨i0,hi,hz0,hz1,hz2⟩:=nY vO;have h:=run_make (P:=prog) u 37 3 i0 (.int .i64 0) underlying37 hi hz0 .i64 .i64 (n:Int) (n:Int) (by omega) (oD _) (by rw[hz2];omega) (by omega);rw[dK] at h;simpa [hz1,Value.cells] using h
theorem uM {w:World}{g j:Nat}{cur:Array Value}{e:TypeId}(h:w.heap[g]? = some (.cells cur e (0,0))):w.frozen? ⟨g,j,none⟩=false:=by
 simp[World.frozen?,h]
theorem pI {w w':World}{base:Nat}{e:TypeId}{size:Nat}{v:Value}{n:Nat}{xs:List Value}(h:w.ownsRow base e size v n xs)(hb:Below w.heap.size w w'):w'.ownsRow base e size v n xs:=by
 obtain⟨h1,h2⟩:=h;refine⟨h1,?_⟩;rcases h2 with h2|⟨g,cap,cur,hv,hg,hcur,h3⟩
 ·exact .inl h2
 ·exact .inr ⟨g,cap,cur,hv,hg,by rw[hb.block g (mY.1 hcur).1];exact hcur,h3⟩
theorem oK {w:World}{base:Nat}{e:TypeId}{size:Nat}{v:Value}{n:Nat}{xs:List Value}(h:w.ownsRow base e size v n xs):∃ a c,v=.slice a n c:=by
 obtain⟨_,⟨rfl,rfl⟩|⟨g,cap,cur,rfl,_⟩⟩:=h
 ·exact⟨_,_,rfl⟩
 ·exact⟨_,_,rfl⟩
theorem b5X {w:World}{base:Nat}{e:TypeId}{size:Nat}{v:Value}{n:Nat}{xs:List Value}(h:w.ownsRow base e size v n xs)(hne:v≠.slice none 0 0):∃ g c,v=.slice (some ⟨g,0,none⟩) n c/\base<=g/\g<w.heap.size:=by
 obtain⟨_,⟨rfl,rfl⟩|⟨g,cap,cur,rfl,hb,hcur,_⟩⟩:=h
 ·exact absurd rfl hne
 ·exact⟨g,cap,rfl,hb,(mY.1 hcur).1⟩
theorem b5Z (w:World)(B:Nat):iQ w B (.slice none 0 0) []:=⟨none,0,rfl,jQ _,by simp,by simp,fun h=>absurd rfl h⟩
