import Derived.Test.YtdceajgpolckiaaGreatDoorQq17
open Go.Proofs.Tryz
set_option linter.unusedSimpArgs false
set_option maxHeartbeats 16000000
set_option maxRecDepth 100000
namespace Go.Proofs.YtdceajgpolckiaaGreatDoor
namespace K
open Go.RowKit K.Ds
def chn (e:Int):List PanicEntry:=[{ v:=.iface 201 (.agg #[.int .i64 e]),recovered:=false }]
theorem pD (e:Int)(w:World):Calls prog 58 #[.bool true,.int .i64 e] w fun x w'=>x=.returned (.tuple #[])/\w' = w:=by
 go_enter func58,ntmps58;go_wp2;go_end0;exact⟨rfl,rfl⟩
theorem uY (e:Int)(w:World):Calls prog 58 #[.bool false,.int .i64 e] w fun x w'=>x=.panicked (chn e)/\w' = w:=by
 go_enter func58,ntmps58;go_wp2;exact⟨rfl,rfl,rfl⟩
theorem j9 (w:World):Calls prog 77 #[.int .i64 0] w fun x w'=>x=.returned (.tuple #[])/\w' = w:=by
 go_enter func77,ntmps77;go_wp2_with fail;refine(pD 0 w).mono ?_;rintro e w1 ⟨rfl,rfl⟩;go_wp2;go_end0;exact⟨rfl,rfl⟩
theorem y9 (e:Int)(he:e≠0)(w:World):Calls prog 77 #[.int .i64 e] w fun x w'=>x=.panicked (chn e)/\w' = w:=by
 have hq:(e == 0)=false:=by simpa using he
 go_enter func77,ntmps77;go_wp2_with fail;refine(uY e w).mono ?_;rintro x w1 ⟨rfl,rfl⟩;go_wp2;exact⟨rfl,rfl,rfl⟩
theorem nT (v:Value)(w:World):(Instr.typeAssert (.iface 201 v) 20 201 true).run prog w=.ok (.tuple #[v,.bool true]) w:=by
 simp[Instr.typeAssert,run_underlying underlying201]
theorem oT (v:Value)(w:World):(binOp .eql 20 (.iface 201 v) .nilIface).run prog w=.ok (.bool false) w:=by
 have h:∀ d:Nat,(Op.equalIn (d+1) 20 (.iface 201 v) .nilIface).run prog w=.ok false w:=fun d=>by simp[Op.equalIn,run_underlying underlying20]
 simp only[binOp];simp[Op.equal,Op.maxDepth,h 9999]
theorem hmf:∀ (fn:Fn) (first cap:Array Value) (w:World),(Instr.makeFunc fn first cap).run prog w=.ok (.func fn first cap) w:=fun _ _ _ _=>rfl
structure Cl (w:World) (b k:Nat) (v:Value):Prop where
 c:w.cell? ⟨b,k,none⟩=some v
 f:w.frozen? ⟨b,k,none⟩=false
 lt:b<w.heap.size
theorem Cl.at {w w':World}{b k:Nat}{v:Value}(h:Cl w b k v)(hb:Below w.heap.size w w'):Cl w' b k v :=
 ⟨(hb.cell (p:=⟨b,k,none⟩) h.lt).trans h.c,(hb.frozen (p:=⟨b,k,none⟩) h.lt).trans h.f,qX h.lt hb.size⟩
theorem Cl.new {w:World}{N:Nat}(cs:Array Value)(t:TypeId)(k:Nat)(x:Value)(hN:N=w.heap.size)(hx:cs[k]? = some x):Cl (w.alloc (.cells cs t)) N k x :=
 ⟨nc cs t k x hN hx,nf cs t k hN,by subst hN;simp⟩
theorem Cl.set {w:World}{b k:Nat}{v:Value}(h:Cl w b k v)(u:Value):Cl (w.setCell ⟨b,k,none⟩ u) b k u :=
 ⟨jY h.c,iZ.trans h.f,by simpa using h.lt⟩
theorem Cl.oth {w:World}{b k b' k':Nat}{v:Value}(h:Cl w b k v)(hne:b'≠b\/k'≠k)(u:Value):Cl (w.setCell ⟨b',k',none⟩ u) b k v :=
 ⟨(rQ (by intro e;simp only[mF] at e;omega)).trans h.c,iZ.trans h.f,by simpa using h.lt⟩
theorem b5Q (p:Nat)(x:Value)(e:Int)(w:World)(hc:Cl w p 0 x) :
  CallsD prog 142 #[.pointer (some ⟨p,0,none⟩)] (.panicking (chn e)) w fun r u' w' =>
   r=.returned (.tuple #[])/\u' = .panicking [{ v:=.iface 201 (.agg #[.int .i64 e]),recovered:=true }]/\w' = (w.alloc (.cells #[.int .i64 e] 201)).setCell ⟨p,0,none⟩ (.int .i64 e):=by
 refine mO func142 rfl fun c₀ cs hu=>?_;apply wpS_seq;apply wpS_region;simp[wpOpsS,go_sem,recoverD,hu,chn,ntmps142,Exit.thenS];refine wpS_of_wp ?_;change Code.wp prog _ _ { tmps:=#[.pointer (some ⟨p,0,none⟩),undef,undef,undef,.iface 201 (.agg #[.int .i64 e]),undef,undef,undef,undef,undef,undef,undef],defers:=[] } w;have ha:=nT;have hq:=oT;have hz2:=(hc.at (ba w (.cells #[.int .i64 e] 201))).f;have hz3:=(hc.at (ba w (.cells #[.int .i64 e] 201))).c;go_wp2;exact⟨rfl,_,rfl,_,eL rfl _ _ _,rfl,rfl,rfl⟩
theorem b5X (p:Addr)(w:World) :
  CallsD prog 142 #[.pointer (some p)] .returning w fun r u' w'=>r=.returned (.tuple #[])/\u' = .returning/\w' = w:=by
 refine mO func142 rfl fun c₀ cs hu=>?_;apply wpS_seq;apply wpS_region;simp[wpOpsS,go_sem,recoverD,hu,ntmps142,Exit.thenS];refine wpS_of_wp ?_;change Code.wp prog _ _ { tmps:=#[.pointer (some p),undef,undef,undef,.nilIface,undef,undef,undef,undef,undef,undef,undef],defers:=[] } w;go_wp2;exact⟨rfl,.returning,by rw[<-hu],_,eL rfl _ _ _,rfl,rfl,rfl⟩
theorem b5Z (caps:Array Value)(b1 b2 b3:Int)(w:World)(kc:∀ W,Below w.heap.size w W->w.heap.size+2<=W.heap.size->Calls prog 84 caps W fun x w'=>x=.returned (.agg #[.int .i64 b1,.int .i64 b2,.int .i64 b3])/\Below W.heap.size W w') :
  Calls prog 83 #[.func (.func 84) #[] caps] w fun e w'=>e=.returned (.tuple #[.agg #[.int .i64 b1,.int .i64 b2,.int .i64 b3],.int .i64 0])/\Below w.heap.size w w':=by
 have hmf:=hmf;go_enter_defers func83,ntmps83;have k1:=kc ((w.alloc (.cells #[.int .i64 0,.int .i64 0,.int .i64 0] 123)).alloc (.cells #[.int .i64 0] 28)) (bal (ba _ _) _) (by simp);go_wp2_with fail;refine k1.mono ?_;rintro e w1 ⟨rfl,hb1⟩;have a0:=((Cl.new (w:=w) #[.int .i64 0,.int .i64 0,.int .i64 0] 123 0 _ rfl rfl).at (ba _ (.cells #[.int .i64 0] 28))).at hb1;have a1:=((Cl.new (w:=w) #[.int .i64 0,.int .i64 0,.int .i64 0] 123 1 _ rfl rfl).at (ba _ (.cells #[.int .i64 0] 28))).at hb1;have a2:=((Cl.new (w:=w) #[.int .i64 0,.int .i64 0,.int .i64 0] 123 2 _ rfl rfl).at (ba _ (.cells #[.int .i64 0] 28))).at hb1;have a3:=(Cl.new (w:=w.alloc (.cells #[.int .i64 0,.int .i64 0,.int .i64 0] 123)) (N:=w.heap.size+1) #[.int .i64 0] 28 0 _ (by simp) rfl).at hb1;have hbw:Below w.heap.size w w1:=bt (bal (ba _ _) _) hb1;have t0:=a0.c;have s0:=a0.f;have t1:=a1.c;have s1:=a1.f;have t2:=a2.c;have s2:=a2.f;have t3:=a3.c;have s3:=a3.f;clear hb1 k1 kc;go_wp2;refine nO (f:=142) (args:=#[.pointer (some ⟨w.heap.size+1,0,none⟩)]) (by simp) (by simp[go_sem]) ?_;refine(b5X _ _).mono ?_;rintro e u' w'' ⟨rfl,rfl,rfl⟩;have hbz:Below w.heap.size w ((((w1.setCell ⟨w.heap.size,0,none⟩ (.int .i64 b1)).setCell ⟨w.heap.size,1,none⟩ (.int .i64 b2)).setCell ⟨w.heap.size,2,none⟩ (.int .i64 b3)).setCell ⟨w.heap.size+1,0,none⟩ (.int .i64 0)):=bs (bs (bs (bs hbw (vQ _) _) (vQ _) _) (vQ _) _) (Nat.le_succ _) _;simp[Leaves,settle,results,results83,go_sem,t0,t1,t2,t3];exact hbz
theorem b5J (caps:Array Value)(er:Int)(w:World)(kc:∀ W,Below w.heap.size w W->w.heap.size+2<=W.heap.size->Calls prog 84 caps W fun x w'=>x=.panicked (chn er)/\Below W.heap.size W w') :
  Calls prog 83 #[.func (.func 84) #[] caps] w fun e w'=>e=.returned (.tuple #[.agg #[.int .i64 0,.int .i64 0,.int .i64 0],.int .i64 er])/\Below w.heap.size w w':=by
 have hmf:=hmf;go_enter_defers func83,ntmps83;have k1:=kc ((w.alloc (.cells #[.int .i64 0,.int .i64 0,.int .i64 0] 123)).alloc (.cells #[.int .i64 0] 28)) (bal (ba _ _) _) (by simp);go_wp2_with fail;refine k1.mono ?_;rintro e w1 ⟨rfl,hb1⟩;have a0:=((Cl.new (w:=w) #[.int .i64 0,.int .i64 0,.int .i64 0] 123 0 _ rfl rfl).at (ba _ (.cells #[.int .i64 0] 28))).at hb1;have a1:=((Cl.new (w:=w) #[.int .i64 0,.int .i64 0,.int .i64 0] 123 1 _ rfl rfl).at (ba _ (.cells #[.int .i64 0] 28))).at hb1;have a2:=((Cl.new (w:=w) #[.int .i64 0,.int .i64 0,.int .i64 0] 123 2 _ rfl rfl).at (ba _ (.cells #[.int .i64 0] 28))).at hb1;have a3:=(Cl.new (w:=w.alloc (.cells #[.int .i64 0,.int .i64 0,.int .i64 0] 123)) (N:=w.heap.size+1) #[.int .i64 0] 28 0 _ (by simp) rfl).at hb1;have hbw:Below w.heap.size w w1:=bt (bal (ba _ _) _) hb1;have t0:=a0.c;have s0:=a0.f;have t1:=a1.c;have s1:=a1.f;have t2:=a2.c;have s2:=a2.f;have t3:=a3.c;have s3:=a3.f;clear hb1 k1 kc;go_wp2;refine nO (f:=142) (args:=#[.pointer (some ⟨w.heap.size+1,0,none⟩)]) (by simp) (by simp[go_sem]) ?_;refine(b5Q _ _ _ _ a3).mono ?_;rintro e u' w'' ⟨rfl,rfl,rfl⟩;have hbz:Below w.heap.size w ((w1.alloc (.cells #[.int .i64 er] 201)).setCell ⟨w.heap.size+1,0,none⟩ (.int .i64 er)):=bs (bal hbw _) (Nat.le_succ _) _;have r0:=(a0.at (ba _ (.cells #[.int .i64 er] 201))).c;have r1:=(a1.at (ba _ (.cells #[.int .i64 er] 201))).c;have r2:=(a2.at (ba _ (.cells #[.int .i64 er] 201))).c;have r3:=(a3.at (ba _ (.cells #[.int .i64 er] 201))).c;simp[Leaves,settle,results,results83,go_sem,r0,r1,r2,r3];exact hbz
theorem b6Q (p:Nat)(x:Value)(e:Int)(w:World)(hc:Cl w p 0 x) :
  CallsD prog 123 #[.pointer (some ⟨p,0,none⟩)] (.panicking (chn e)) w fun r u' w' =>
   r=.returned (.tuple #[])/\u' = .panicking [{ v:=.iface 201 (.agg #[.int .i64 e]),recovered:=true }]/\w' = (w.alloc (.cells #[.int .i64 e] 201)).setCell ⟨p,0,none⟩ (.int .i64 e):=by
 refine mO func123 rfl fun c₀ cs hu=>?_;apply wpS_seq;apply wpS_region;simp[wpOpsS,go_sem,recoverD,hu,chn,ntmps123,Exit.thenS];refine wpS_of_wp ?_;change Code.wp prog _ _ { tmps:=#[.pointer (some ⟨p,0,none⟩),undef,undef,undef,.iface 201 (.agg #[.int .i64 e]),undef,undef,undef,undef,undef,undef,undef],defers:=[] } w;have ha:=nT;have hq:=oT;have hz2:=(hc.at (ba w (.cells #[.int .i64 e] 201))).f;have hz3:=(hc.at (ba w (.cells #[.int .i64 e] 201))).c;go_wp2;exact⟨rfl,_,rfl,_,eL rfl _ _ _,rfl,rfl,rfl⟩
theorem b6X (p:Addr)(w:World) :
  CallsD prog 123 #[.pointer (some p)] .returning w fun r u' w'=>r=.returned (.tuple #[])/\u' = .returning/\w' = w:=by
 refine mO func123 rfl fun c₀ cs hu=>?_;apply wpS_seq;apply wpS_region;simp[wpOpsS,go_sem,recoverD,hu,ntmps123,Exit.thenS];refine wpS_of_wp ?_;change Code.wp prog _ _ { tmps:=#[.pointer (some p),undef,undef,undef,.nilIface,undef,undef,undef,undef,undef,undef,undef],defers:=[] } w;go_wp2;exact⟨rfl,.returning,by rw[<-hu],_,eL rfl _ _ _,rfl,rfl,rfl⟩
theorem b6Z (caps:Array Value)(Q:Value->World->Prop)(w:World)(kc:∀ W,Below w.heap.size w W->w.heap.size+1<=W.heap.size->Calls prog 76 caps W fun x w'=>∃ V,x=.returned V/\Q V w'/\Below W.heap.size W w') :
  Calls prog 75 #[.func (.func 76) #[] caps] w fun e w'=>∃ V w1,e=.returned (.tuple #[V,.int .i64 0])/\Q V w1/\Below w.heap.size w w1/\w' = w1.setCell ⟨w.heap.size,0,none⟩ (.int .i64 0):=by
 have hmf:=hmf;go_enter_defers func75,ntmps75;have k1:=kc (w.alloc (.cells #[.int .i64 0] 28)) (ba _ _) (by simp);go_wp2_with fail;refine k1.mono ?_;rintro e w1 ⟨V,rfl,hQ,hb1⟩;have a0:=(Cl.new (w:=w) #[.int .i64 0] 28 0 _ rfl rfl).at hb1;have hbw:Below w.heap.size w w1:=bt (ba _ _) hb1;have t0:=a0.c;have s0:=a0.f;clear hb1 k1 kc;go_wp2;refine nO (f:=123) (args:=#[.pointer (some ⟨w.heap.size,0,none⟩)]) (by simp) (by simp[go_sem]) ?_;refine(b6X _ _).mono ?_;rintro e u' w'' ⟨rfl,rfl,rfl⟩;simp[Leaves,settle,results,results75,go_sem,t0];exact⟨_,hQ,hbw,rfl⟩
theorem b6J (caps:Array Value)(er:Int)(w:World)(kc:∀ W,Below w.heap.size w W->w.heap.size+1<=W.heap.size->Calls prog 76 caps W fun x w'=>x=.panicked (chn er)/\Below W.heap.size W w') :
  Calls prog 75 #[.func (.func 76) #[] caps] w fun e w'=>e=.returned (.tuple #[.slice none 0 0,.int .i64 er])/\Below w.heap.size w w':=by
 have hmf:=hmf;go_enter_defers func75,ntmps75;have k1:=kc (w.alloc (.cells #[.int .i64 0] 28)) (ba _ _) (by simp);go_wp2_with fail;refine k1.mono ?_;rintro e w1 ⟨rfl,hb1⟩;have a0:=(Cl.new (w:=w) #[.int .i64 0] 28 0 _ rfl rfl).at hb1;have hbw:Below w.heap.size w w1:=bt (ba _ _) hb1;have t0:=a0.c;have s0:=a0.f;clear hb1 k1 kc;go_wp2;refine nO (f:=123) (args:=#[.pointer (some ⟨w.heap.size,0,none⟩)]) (by simp) (by simp[go_sem]) ?_;refine(b6Q _ _ _ _ a0).mono ?_;rintro e u' w'' ⟨rfl,rfl,rfl⟩;have hbz:Below w.heap.size w ((w1.alloc (.cells #[.int .i64 er] 201)).setCell ⟨w.heap.size,0,none⟩ (.int .i64 er)):=bs (bal hbw _) (vQ _) _;have r0:=(a0.at (ba _ (.cells #[.int .i64 er] 201))).c;simp[Leaves,settle,results,results75,go_sem,r0];exact hbz
theorem b9 (g:Nat)(n1 n2:ByteArray)(s1:Int)(w:World)(hg:g<w.heap.size)(hc:w.cell? ⟨g,0,none⟩=some (.string n2))(r:Bool)(hr:decide (n1=n2)=r) :
  Calls prog 103 #[.agg #[.string n1,.int .i64 s1],.pointer (some ⟨g,0,none⟩)] w fun e w'=>e=.returned (.bool r)/\Below w.heap.size w w':=by
 have hq:(n1.toList == n2.toList)=r:=(pL _ _).trans hr;clear hr;go_enter func103,ntmps103;go_wp2;go_ret;exact⟨rfl,ba _ _⟩
def oI (l:List jQ) (s:ByteArray):Int:=match fnd l s with|some i=>i|none=>-1
theorem d9 {l:List jQ}{s:ByteArray}{i:Nat}(h:fnd l s=some i):oI l s=i:=by rw[oI,h]
theorem k9 {l:List jQ}{s:ByteArray}(h:fnd l s=none):oI l s = -1:=by rw[oI,h]
theorem l9 (B g:Nat)(v:Value)(l:List jQ)(nm0:ByteArray)(w:World)(hB:B<=w.heap.size)(hp:eQ w B v l)(hg:g<w.heap.size)(hc0:w.cell? ⟨g,0,none⟩=some (.string nm0))(r:Int)(hr:oI l nm0=r) :
  Calls prog 102 #[v,.func (.func 103) #[] #[.pointer (some ⟨g,0,none⟩)]] w fun e w'=>e=.returned (.int .i64 r)/\Below w.heap.size w w':=by
 have HP:Hid (eQ w B v l):=hp;have HR:Hid (oI l nm0=r):=hr;have HC0:Hid (w.cell? ⟨g,0,none⟩=some (.string nm0)):=hc0;obtain⟨a,c,rfl,hc,hl⟩:=hp.slice;clear hr hc0;go_enter func102,ntmps102;go_wp2
 go_loopw [8] (fun s wr=>∃ (i:Nat),s=.int .i64 (i:Int)/\i<=l.length/\Hid (rL l nm0 i)/\Below w.heap.size w wr) (fun s _=>l.length - (intOf s).toNat)
 case atStart=>exact⟨0,rfl,nQ _,fun j c hj=>by omega,aQ _ _⟩
 case round =>
  obtain⟨i,rfl,hi,HI,hbl⟩:=hrel;by_cases h1:i<l.length
  ·obtain⟨b,o,nm,sz,rfl,hb,hgt,c1,c2,hn⟩:=HP.out.get hB hbl h1
   have HG:Hid (l[i]? = some (nm,sz)):=hgt;clear hgt;have hgr:g<wr.heap.size:=qX hg hbl.size;have HCR:Hid (wr.cell? ⟨g,0,none⟩=some (.string nm0)):=(hbl.cell (p:=⟨g,0,none⟩) hg).trans HC0.out;cases he:decide (nm=nm0) with
   | true =>
    have HE:Hid (decide (nm=nm0)=true):=he;clear he;obtain rfl:(i:Int)=r:=by rw[<-HR.out];exact(d9 (b3J HI.out HG.out (cH HE.out))).symm
    go_wp2_with fail;refine(b9 g nm nm0 sz _ hgr HCR.out true HE.out).mono ?_;rintro e w1 ⟨rfl,hb1⟩;go_wp2;go_ret;exact⟨rfl,bt hbl hb1⟩
   | false =>
    have HE:Hid (decide (nm=nm0)=false):=he;clear he;go_wp2_with fail;refine(b9 g nm nm0 sz _ hgr HCR.out false HE.out).mono ?_;rintro e w1 ⟨rfl,hb1⟩;go_wp2
    go_roundw
    case rel=>exact⟨i+1,by go_num,h1,HI.out.next HG.out (jN HE.out),bt hbl hb1⟩
    case measure=>simp[intOf];omega
  ·obtain rfl:-1=r:=by rw[<-HR.out];exact(k9 (b4Q (by have:=HI.out;rwa [show i=l.length by omega] at this))).symm
   go_wp2;go_ret;exact⟨rfl,hbl⟩
theorem tL (B:Nat)(v:Value)(l:List jQ)(s:ByteArray)(w:World)(hB:B<=w.heap.size)(hp:eQ w B v l)(i:Nat)(hr:fnd l s=some i) :
  Calls prog 56 #[v,.string s] w fun e w'=>e=.returned (.int .i64 (i:Int))/\Below w.heap.size w w':=by
 have HI:Hid (oI l s=(i:Int)):=d9 hr;have k1:=l9 B w.heap.size v l s (w.alloc (.cells #[.string s] 9)) (by simp;omega) (hp.at hB (ba _ _)) (by simp) (nc _ _ 0 _ rfl rfl) _ HI.out;clear hp hr;have hmf:=hmf;go_enter func56,ntmps56;go_wp2_with fail;refine k1.mono ?_;rintro e w1 ⟨rfl,hb1⟩;clear k1;have hbw:Below w.heap.size w w1:=bt (ba _ _) hb1;clear hb1;go_wp2_with fail;refine(pD 7 w1).mono ?_;rintro e w2 ⟨rfl,rfl⟩;go_wp2;go_ret;exact⟨rfl,hbw⟩
theorem bP (B:Nat)(v:Value)(l:List jQ)(s:ByteArray)(w:World)(hB:B<=w.heap.size)(hp:eQ w B v l)(hr:fnd l s=none) :
  Calls prog 56 #[v,.string s] w fun e w'=>e=.panicked (chn 7)/\Below w.heap.size w w':=by
 have HI:Hid (oI l s = -1):=k9 hr;have k1:=l9 B w.heap.size v l s (w.alloc (.cells #[.string s] 9)) (by simp;omega) (hp.at hB (ba _ _)) (by simp) (nc _ _ 0 _ rfl rfl) _ HI.out;clear hp hr;have hmf:=hmf;go_enter func56,ntmps56;go_wp2_with fail;refine k1.mono ?_;rintro e w1 ⟨rfl,hb1⟩;clear k1;have hbw:Below w.heap.size w w1:=bt (ba _ _) hb1;clear hb1;go_wp2_with fail;refine(uY 7 w1).mono ?_;rintro e w2 ⟨rfl,rfl⟩;go_wp2;exact⟨rfl,rfl,hbw⟩
theorem b7Q (k:Int)(w:World)(n:Int)(hn:0<=n)(hk:cX k=n):Calls prog 124 #[.int .i64 k] w fun e w'=>e=.returned (.int .i64 n)/\w' = w:=by
 unfold cX at hk;go_enter func124,ntmps124;by_cases h1:k=1
 ·subst h1;subst hk;go_wp2;go_ret;exact⟨rfl,rfl⟩
 by_cases h2:k=2
 ·subst h2;subst hk;go_wp2;go_ret;exact⟨rfl,rfl⟩
 by_cases h3:k=3
 ·subst h3;subst hk;go_wp2;go_ret;exact⟨rfl,rfl⟩
 by_cases h4:k=4
 ·subst h4;subst hk;go_wp2;go_ret;exact⟨rfl,rfl⟩
 by_cases h5:k=5
 ·subst h5;subst hk;go_wp2;go_ret;exact⟨rfl,rfl⟩
 by_cases h6:k=6
 ·subst h6;subst hk;go_wp2;go_ret;exact⟨rfl,rfl⟩
 by_cases h7:k=7
 ·subst h7;subst hk;go_wp2;go_ret;exact⟨rfl,rfl⟩
 by_cases h8:k=8
 ·subst h8;subst hk;go_wp2;go_ret;exact⟨rfl,rfl⟩
 by_cases h9:k=9
 ·subst h9;subst hk;go_wp2;go_ret;exact⟨rfl,rfl⟩
 by_cases h10:k=10
 ·subst h10;subst hk;go_wp2;go_ret;exact⟨rfl,rfl⟩
 exfalso;simp[h1,h2,h3,h4,h5,h6,h7,h8,h9,h10] at hk;omega
theorem b7X (k:Int)(w:World)(hk:cX k<0):Calls prog 124 #[.int .i64 k] w fun e w'=>e=.panicked (chn 1)/\w' = w:=by
 have g1:(k == 1)=false:=by rw[qA];rintro rfl;simp[cX] at hk
 have g2:(k == 2)=false:=by rw[qA];rintro rfl;simp[cX] at hk
 have g3:(k == 3)=false:=by rw[qA];rintro rfl;simp[cX] at hk
 have g4:(k == 4)=false:=by rw[qA];rintro rfl;simp[cX] at hk
 have g5:(k == 5)=false:=by rw[qA];rintro rfl;simp[cX] at hk
 have g6:(k == 6)=false:=by rw[qA];rintro rfl;simp[cX] at hk
 have g7:(k == 7)=false:=by rw[qA];rintro rfl;simp[cX] at hk
 have g8:(k == 8)=false:=by rw[qA];rintro rfl;simp[cX] at hk
 have g9:(k == 9)=false:=by rw[qA];rintro rfl;simp[cX] at hk
 have g10:(k == 10)=false:=by rw[qA];rintro rfl;simp[cX] at hk
 clear hk;go_enter func124,ntmps124;go_wp2;exact⟨rfl,rfl,rfl⟩
theorem pT (lo hi:Int)(w:World)(h:yY lo hi=true):Calls prog 181 #[.int .i64 lo,.int .i64 hi] w fun e w'=>e=.returned (.int .i64 (spn lo hi))/\w' = w:=by
 simp only[yY,oV] at h;obtain⟨h1,h2,h3⟩:=h;go_enter func181,ntmps181;go_wp2_with fail;refine(pD 3 w).mono ?_;rintro e w2 ⟨rfl,rfl⟩;go_wp2
 ·go_ret
  exact⟨by rw[spn,xQ (by omega)];rfl,rfl⟩
 ·go_ret
  exact⟨by rw[show spn lo hi = -lo by unfold spn;split <;> omega];rfl,rfl⟩
theorem rT (lo hi:Int)(w:World)(h:yY lo hi=false):Calls prog 181 #[.int .i64 lo,.int .i64 hi] w fun e w'=>e=.panicked (chn 3)/\w' = w:=by
 simp only[yY,decide_eq_false_iff_not] at h;go_enter func181,ntmps181;by_cases h1:-1048576<=lo
 ·by_cases h2:lo<=hi
  ·have h3:¬ hi<=1048576:=fun h3=>h ⟨h1,h2,h3⟩
   go_wp2_with fail;refine(uY 3 w).mono ?_;rintro e w2 ⟨rfl,rfl⟩;go_wp2;exact⟨rfl,rfl,rfl⟩
  ·go_wp2_with fail
   refine(uY 3 w).mono ?_;rintro e w2 ⟨rfl,rfl⟩;go_wp2;exact⟨rfl,rfl,rfl⟩
 ·go_wp2_with fail
  refine(uY 3 w).mono ?_;rintro e w2 ⟨rfl,rfl⟩;go_wp2;exact⟨rfl,rfl,rfl⟩
def qZ (w:World) (B:Nat) (v:Value) (l:List oX):Prop :=
 ∃ a c,v=.slice a l.length c/\l.length<=c/\l.length<=9223372036854775807/\(∀ x∈l,x.1.size<=9223372036854775807) /\
  (l≠[]->∃ b o,a=some ⟨b,o,none⟩/\b<B/\∀ i x,l[i]? = some x->w.cell? ⟨b,o+i*3,none⟩=some (.string x.1)/\w.cell? ⟨b,o+i*3+1,none⟩=some (.int .i64 x.2.1)/\w.cell? ⟨b,o+i*3+2,none⟩=some (.int .i64 x.2.2))
theorem qZ.keep {w w':World}{B:Nat}{v:Value}{l:List oX}(h:qZ w B v l)(hb:Below B w w'):qZ w' B v l:=by
 obtain⟨a,c,hv,hc,hl,hn,hx⟩:=h;refine⟨a,c,hv,hc,hl,hn,fun hne=>?_⟩;obtain⟨b,o,ha,hB,hcell⟩:=hx hne;exact⟨b,o,ha,hB,fun i x hi=>⟨(hb.cell (p:=⟨b,o+i*3,none⟩) hB).trans (hcell i x hi).1,(hb.cell (p:=⟨b,o+i*3+1,none⟩) hB).trans (hcell i x hi).2.1,(hb.cell (p:=⟨b,o+i*3+2,none⟩) hB).trans (hcell i x hi).2.2⟩⟩
theorem qZ.at {w w':World}{B:Nat}{v:Value}{l:List oX}(h:qZ w B v l)(hB:B<=w.heap.size)(hb:Below w.heap.size w w'):qZ w' B v l:=h.keep (hb.mono hB)
theorem qZ.mono {w:World}{B B':Nat}{v:Value}{l:List oX}(h:qZ w B v l)(hB:B<=B'):qZ w B' v l:=by
 obtain⟨a,c,hv,hc,hl,hn,hx⟩:=h;refine⟨a,c,hv,hc,hl,hn,fun hne=>?_⟩;obtain⟨b,o,ha,hb,hcell⟩:=hx hne;exact⟨b,o,ha,by omega,hcell⟩
theorem qZ.slice {w:World}{B:Nat}{v:Value}{l:List oX}(h:qZ w B v l):∃ a c,v=.slice a l.length c/\l.length<=c/\l.length<=9223372036854775807:=by
 obtain⟨a,c,hv,hc,hl,_⟩:=h;exact⟨a,c,hv,hc,hl⟩
theorem qZ.get {w wr:World}{B:Nat}{a:Option Addr}{n c:Nat}{l:List oX}(h:qZ w B (.slice a n c) l)(hB:B<=w.heap.size)(hb:Below w.heap.size w wr){i:Nat}(hi:i<l.length) :
  ∃ b o nm d z,a=some ⟨b,o,none⟩/\b<B/\l[i]? = some (nm,d,z)/\wr.cell? ⟨b,o+i*3,none⟩=some (.string nm)/\wr.cell? ⟨b,o+i*3+1,none⟩=some (.int .i64 d)/\wr.cell? ⟨b,o+i*3+2,none⟩=some (.int .i64 z)/\nm.size<=9223372036854775807:=by
 obtain⟨a',c',hv,_,_,hn,hx⟩:=h.at hB hb;simp only[xV] at hv;obtain⟨rfl,rfl,rfl⟩:=hv;obtain⟨b,o,rfl,hbB,hcell⟩:=hx (ne_of_lt hi);obtain⟨⟨nm,d,z⟩,hx⟩:=wX hi;exact⟨b,o,nm,d,z,rfl,hbB,hx,(hcell i _ hx).1,(hcell i _ hx).2.1,(hcell i _ hx).2.2,hn _ (uX hx)⟩
def xY (w:World) (b o:Nat) (v0 v1 v2 v3 v4 v5:Value):Prop :=
 w.cell? ⟨b,o,none⟩=some v0/\w.cell? ⟨b,o+1,none⟩=some v1/\w.cell? ⟨b,o+2,none⟩=some v2/\w.cell? ⟨b,o+3,none⟩=some v3/\w.cell? ⟨b,o+4,none⟩=some v4/\w.cell? ⟨b,o+5,none⟩=some v5
theorem xY.keep {w w':World}{B b o:Nat}{v0 v1 v2 v3 v4 v5:Value}(h:xY w b o v0 v1 v2 v3 v4 v5)(hb:Below B w w')(hB:b<B):xY w' b o v0 v1 v2 v3 v4 v5 :=
 ⟨(hb.cell (p:=⟨b,o,none⟩) hB).trans h.1,(hb.cell (p:=⟨b,o+1,none⟩) hB).trans h.2.1,(hb.cell (p:=⟨b,o+2,none⟩) hB).trans h.2.2.1,(hb.cell (p:=⟨b,o+3,none⟩) hB).trans h.2.2.2.1,(hb.cell (p:=⟨b,o+4,none⟩) hB).trans h.2.2.2.2.1,(hb.cell (p:=⟨b,o+5,none⟩) hB).trans h.2.2.2.2.2⟩
def Qm (w:World) (B:Nat):Qu->Value->Value->Value->Value->Value->Value->Prop
 | .none,_,_,_,_,_,_=>False
 | .node k c lo hi wh n x y,v0,v1,v2,v3,v4,v5 =>
  (v0=.int .i64 k/\v1=.string c/\v2=.int .i64 lo/\v3=.int .i64 hi/\c.size<=9223372036854775807/\qZ w B v4 wh/\∃ a cap,v5=.slice a n cap/\n<=cap/\n<=9223372036854775807 /\
   (1<=n->n<=2->∃ b o,a=some ⟨b,o,none⟩/\b<B/\(∃ u0 u1 u2 u3 u4 u5,xY w b o u0 u1 u2 u3 u4 u5/\Qm w B x u0 u1 u2 u3 u4 u5) /\
    (2<=n->∃ u0 u1 u2 u3 u4 u5,xY w b (o+6) u0 u1 u2 u3 u4 u5/\Qm w B y u0 u1 u2 u3 u4 u5)))
theorem Qm.keep {w w':World}{B:Nat}(hb:Below B w w')(q:Qu):∀ {v0 v1 v2 v3 v4 v5:Value},Qm w B q v0 v1 v2 v3 v4 v5->Qm w' B q v0 v1 v2 v3 v4 v5:=by
 induction q with
 | none=>intro v0 v1 v2 v3 v4 v5 h;exact h
 | node k c lo hi wh n x y ihx ihy =>
  rintro v0 v1 v2 v3 v4 v5 ⟨h0,h1,h2,h3,hc,hw,a,cap,h5,hn,hm,hk⟩;refine⟨h0,h1,h2,h3,hc,hw.keep hb,a,cap,h5,hn,hm,fun g1 g2=>?_⟩;obtain⟨b,o,ha,hB,⟨u0,u1,u2,u3,u4,u5,hx,hq⟩,h2⟩:=hk g1 g2;refine⟨b,o,ha,hB,⟨u0,u1,u2,u3,u4,u5,hx.keep hb hB,ihx hq⟩,fun g=>?_⟩;obtain⟨u0,u1,u2,u3,u4,u5,hx,hq⟩:=h2 g;exact⟨u0,u1,u2,u3,u4,u5,hx.keep hb hB,ihy hq⟩
theorem Qm.at {w w':World}{B:Nat}{q:Qu}{v0 v1 v2 v3 v4 v5:Value}(h:Qm w B q v0 v1 v2 v3 v4 v5)(hB:B<=w.heap.size)(hb:Below w.heap.size w w'):Qm w' B q v0 v1 v2 v3 v4 v5:=Qm.keep (hb.mono hB) q h
def wL (d z v:Int):Bool:=if d=1 then v == z else if d=2 then decide (v<z) else if d=3 then decide (v<=z) else if d=4 then decide (z<v) else if d=5 then decide (z<=v) else !(v == z)
abbrev uA (d:Int) (p:Nat):Value:=.func (.func (231+d.toNat)) #[] #[.pointer (some ⟨p,0,none⟩)]
theorem b7Z (d z:Int)(w:World)(hd:wY d=true) :
  Calls prog 204 #[.int .i64 d,.int .i64 z] w fun e w'=>e=.returned (uA d w.heap.size)/\w' = w.alloc (.cells #[.int .i64 z] 3):=by
 have hmf:=hmf;simp only[wY,oV] at hd;go_enter func204,ntmps204;by_cases h1:d=1
 ·subst h1;go_wp2;go_ret;exact⟨rfl,rfl⟩
 by_cases h2:d=2
 ·subst h2;go_wp2;go_ret;exact⟨rfl,rfl⟩
 by_cases h3:d=3
 ·subst h3;go_wp2;go_ret;exact⟨rfl,rfl⟩
 by_cases h4:d=4
 ·subst h4;go_wp2;go_ret;exact⟨rfl,rfl⟩
 by_cases h5:d=5
 ·subst h5;go_wp2;go_ret;exact⟨rfl,rfl⟩
 obtain rfl:d=6:=by omega
 go_wp2;go_ret;exact⟨rfl,rfl⟩
theorem b7J (d z:Int)(w:World)(hd:wY d=false) :
  Calls prog 204 #[.int .i64 d,.int .i64 z] w fun e w'=>e=.panicked (chn 1)/\Below w.heap.size w w':=by
 have g1:(d == 1)=false:=by rw[qA];rintro rfl;simp[wY] at hd
 have g2:(d == 2)=false:=by rw[qA];rintro rfl;simp[wY] at hd
 have g3:(d == 3)=false:=by rw[qA];rintro rfl;simp[wY] at hd
 have g4:(d == 4)=false:=by rw[qA];rintro rfl;simp[wY] at hd
 have g5:(d == 5)=false:=by rw[qA];rintro rfl;simp[wY] at hd
 have g6:(d == 6)=false:=by rw[qA];rintro rfl;simp[wY] at hd
 clear hd;go_enter func204,ntmps204;go_wp2;exact⟨rfl,rfl,ba _ _⟩
theorem qM (d z v:Int)(p:Nat)(w:World)(hd:wY d=true)(hc:w.cell? ⟨p,0,none⟩=some (.int .i64 z)) :
  Calls prog (231+d.toNat) #[.int .i64 v,.pointer (some ⟨p,0,none⟩)] w fun e w'=>e=.returned (.bool (wL d z v))/\w' = w:=by
 simp only[wY,oV] at hd;by_cases h1:d=1
 ·subst h1;go_enter func232,ntmps232;go_wp2;go_ret;exact⟨rfl,rfl⟩
 by_cases h2:d=2
 ·subst h2;go_enter func233,ntmps233;go_wp2;go_ret;exact⟨rfl,rfl⟩
 by_cases h3:d=3
 ·subst h3;go_enter func234,ntmps234;go_wp2;go_ret;exact⟨rfl,rfl⟩
 by_cases h4:d=4
 ·subst h4;go_enter func235,ntmps235;go_wp2;go_ret;exact⟨rfl,rfl⟩
 by_cases h5:d=5
 ·subst h5;go_enter func236,ntmps236;go_wp2;go_ret;exact⟨rfl,rfl⟩
 obtain rfl:d=6:=by omega
 go_enter func237,ntmps237;go_wp2;go_ret;exact⟨rfl,rfl⟩
theorem zQ.slice {w:World}{B nb:Nat}{v:Value}{xs:List Int}(h:zQ w B nb v xs):∃ a c,v=.slice a xs.length c/\xs.length<=c/\xs.length<=9223372036854775807:=by
 obtain⟨a,c,hv,hc,hl,_⟩:=h;exact⟨a,c,hv,hc,hl⟩
theorem zQ.get {w wr:World}{B nb:Nat}{a:Option Addr}{n c:Nat}{xs:List Int}(h:zQ w B nb (.slice a n c) xs)(hB:B<=w.heap.size)(hb:Below w.heap.size w wr){i:Nat}(hi:i<xs.length) :
  ∃ b o x,a=some ⟨b,o,none⟩/\b<B/\b≠nb/\xs[i]? = some x/\wr.cell? ⟨b,o+i,none⟩=some (.int .i64 x):=by
 obtain⟨a',c',hv,_,_,hx⟩:=h.at hB hb;simp only[xV] at hv;obtain⟨rfl,rfl,rfl⟩:=hv;obtain⟨b,o,rfl,hbB,hn,hcell⟩:=hx (ne_of_lt hi);obtain⟨x,hx⟩:=wX hi;exact⟨b,o,x,rfl,hbB,hn,hx,hcell i _ hx⟩
theorem b8Q (B Bi nb:Nat)(v u:Value)(l:List jQ)(r:List Int)(w:World)(hB:B<=w.heap.size)(hp:eQ w B v l)(hBi:Bi<=w.heap.size)(hq:zQ w Bi nb u r)(er:Int)(hr:rV l r=er) :
  Calls prog 88 #[v,u] w fun e w'=>e=.returned (.int .i64 er)/\w' = w:=by
 have HP:Hid (eQ w B v l):=hp;have HQ:Hid (zQ w Bi nb u r):=hq;have HR:Hid (rV l r=er):=hr;obtain⟨a,c,rfl,hc,hl⟩:=hp.slice;obtain⟨a2,c2,rfl,hc2,hl2⟩:=hq.slice;clear hr;go_enter func88,ntmps88;by_cases hlen:l.length=r.length
 ·have hle:(((r.length:Int)) != (l.length:Int))=false:=by simp[hlen]
  have HLN:Hid (l.length=r.length):=hlen;have HE:Hid (rV l r=yA l r):=by show _=_;rw[rV,xQ hlen]
  clear hlen;go_wp2
  go_loopw [14] (fun s wr=>∃ (i:Nat),s=.int .i64 (i:Int)/\i<=r.length/\Hid (yA (l.drop i) (r.drop i)=er)/\wr=w) (fun s _=>r.length - (intOf s).toNat)
  case atStart=>exact⟨0,rfl,nQ _,by show _=_;simpa using HE.out.symm.trans HR.out,rfl⟩
  case round =>
   obtain⟨i,rfl,hi,HI,rfl⟩:=hrel;by_cases h1:i<r.length
   ·obtain⟨b,o,nm,sz,rfl,hb,hg,c1,c2,hn⟩:=HP.out.get hB (aQ _ _) (i:=i) (by have:=HLN.out;omega)
    obtain⟨b2,o2,x,rfl,hb2,_,hg2,e1⟩:=HQ.out.get hBi (aQ _ _) h1;have z1:(i:Int)<(l.length:Int):=by have:=HLN.out;omega
    have ST:Hid (er=if x<0\/sz<=x then 3 else yA (l.drop (i+1)) (r.drop (i+1))):=HI.out.symm.trans (o7 hg hg2);clear hg hg2 HI;by_cases hx0:x<0
    ·obtain rfl:er=3:=by rw[ST.out,xQ (.inl hx0)]
     go_wp2;go_ret;exact⟨rfl,rfl⟩
    ·by_cases hx1:sz<=x
     ·obtain rfl:er=3:=by rw[ST.out,xQ (.inr hx1)]
      go_wp2;go_ret;exact⟨rfl,rfl⟩
     ·have HI2:Hid (yA (l.drop (i+1)) (r.drop (i+1))=er):=by show _=_;rw[ST.out,qQ (by omega)]
      go_wp2
      go_roundw
      case rel=>exact⟨i+1,by go_num,h1,HI2,trivial⟩
      case measure=>simp[intOf];omega
   ·obtain rfl:0=er:=by have:=HI.out;rw[show r.drop i=[] from qD (by omega)] at this;rw[<-this];cases l.drop i <;> rfl
    go_wp2;go_ret;exact⟨rfl,rfl⟩
 ·have hle:(((r.length:Int)) != (l.length:Int))=true:=by simp;omega
  obtain rfl:8=er:=by rw[<-HR.out,rV,qQ hlen]
  go_wp2;go_ret;exact⟨rfl,rfl⟩
theorem b8X (B Bi nb:Nat)(v u:Value)(l:List jQ)(r:List Int)(w:World)(hB:B<=w.heap.size)(hp:eQ w B v l)(hBi:Bi<=w.heap.size)(hq:zQ w Bi nb u r)(er:Int)(hr:rV l r=er) :
  Calls prog 24 #[v,u] w fun e w'=>e=.returned (.int .i64 er)/\w' = w:=by
 have HP:Hid (eQ w B v l):=hp;have HQ:Hid (zQ w Bi nb u r):=hq;have HR:Hid (rV l r=er):=hr;obtain⟨a,c,rfl,hc,hl⟩:=hp.slice;obtain⟨a2,c2,rfl,hc2,hl2⟩:=hq.slice;clear hr;go_enter func24,ntmps24;by_cases hlen:l.length=r.length
 ·have hle:(((l.length:Int)) != (r.length:Int))=false:=by simp[hlen]
  have HLN:Hid (l.length=r.length):=hlen;have HE:Hid (rV l r=yA l r):=by show _=_;rw[rV,xQ hlen]
  clear hlen;go_wp2
  go_loopw [14] (fun s wr=>∃ (i:Nat),s=.int .i64 (i:Int)/\i<=r.length/\Hid (yA (l.drop i) (r.drop i)=er)/\wr=w) (fun s _=>r.length - (intOf s).toNat)
  case atStart=>exact⟨0,rfl,nQ _,by show _=_;simpa using HE.out.symm.trans HR.out,rfl⟩
  case round =>
   obtain⟨i,rfl,hi,HI,rfl⟩:=hrel;by_cases h1:i<r.length
   ·obtain⟨b,o,nm,sz,rfl,hb,hg,c1,c2,hn⟩:=HP.out.get hB (aQ _ _) (i:=i) (by have:=HLN.out;omega)
    obtain⟨b2,o2,x,rfl,hb2,_,hg2,e1⟩:=HQ.out.get hBi (aQ _ _) h1;have z1:(i:Int)<(l.length:Int):=by have:=HLN.out;omega
    have ST:Hid (er=if x<0\/sz<=x then 3 else yA (l.drop (i+1)) (r.drop (i+1))):=HI.out.symm.trans (o7 hg hg2);clear hg hg2 HI;by_cases hx0:x<0
    ·obtain rfl:er=3:=by rw[ST.out,xQ (.inl hx0)]
     go_wp2;go_ret;exact⟨rfl,rfl⟩
    ·by_cases hx1:sz<=x
     ·obtain rfl:er=3:=by rw[ST.out,xQ (.inr hx1)]
      go_wp2;go_ret;exact⟨rfl,rfl⟩
     ·have HI2:Hid (yA (l.drop (i+1)) (r.drop (i+1))=er):=by show _=_;rw[ST.out,qQ (by omega)]
      go_wp2
      go_roundw
      case rel=>exact⟨i+1,by go_num,h1,HI2,trivial⟩
      case measure=>simp[intOf];omega
   ·obtain rfl:0=er:=by have:=HI.out;rw[show r.drop i=[] from qD (by omega)] at this;rw[<-this];cases l.drop i <;> rfl
    go_wp2;go_ret;exact⟨rfl,rfl⟩
 ·have hle:(((l.length:Int)) != (r.length:Int))=true:=by simp;omega
  obtain rfl:8=er:=by rw[<-HR.out,rV,qQ hlen]
  go_wp2;go_ret;exact⟨rfl,rfl⟩
def KP (p k:Nat):Prop:=k<=16777216/\(p<=4096->k=p)/\(4096<p->4096<k)
theorem KP.lo {p k z:Nat}(h:KP p k)(hk:k<=4096)(hz:z<=4096):KP (p*z) (k*z):=by
 obtain⟨_,h2,h3⟩:=h;have e:k=p:=h2 (by omega);subst e;refine⟨?_,fun _=>rfl,fun h=>h⟩;exact Nat.mul_le_mul hk hz
theorem KP.hi {p k z:Nat}(h:KP p k)(hk:4096<k)(hz:1<=z):KP (p*z) k:=by
 obtain⟨h1,h2,h3⟩:=h;have hp:4096<p:=by omega
 have:p*1<=p*z:=Nat.mul_le_mul_left _ hz;exact⟨h1,fun h=>by omega,fun _=>hk⟩
theorem b8Z (B:Nat)(v:Value)(l:List jQ)(w:World)(hB:B<=w.heap.size)(hp:eQ w B v l)(er:Int)(hr:yV l=er) :
  Calls prog 23 #[v] w fun e w'=>e=.returned (.int .i64 er)/\Below w.heap.size w w':=by
 have HP:Hid (eQ w B v l):=hp;have HR:Hid (yV l=er):=hr;obtain⟨a,c,rfl,hc,hl⟩:=hp.slice;clear hr;go_enter func23,ntmps23;by_cases h0:l.length<1
 ·obtain rfl:5=er:=by rw[<-HR.out,yV,xQ (by omega)]
  go_wp2;go_ret;exact⟨rfl,aQ _ _⟩
 by_cases h6:6<l.length
 ·obtain rfl:5=er:=by rw[<-HR.out,yV,xQ (by omega)]
  go_wp2;go_ret;exact⟨rfl,aQ _ _⟩
 have HE:Hid (yV l=if rZ [] l=0 then (if 4096<prd l then 4 else 0) else rZ [] l):=by show _=_;rw[yV,qQ (by omega)]
 go_wp2
 go_loopw [3,18] (fun nv s wr=>∃ (i k:Nat),nv=.int .i64 (k:Int)/\s=.int .i64 (i:Int)/\i<=l.length/\Hid (rZ (l.take i) (l.drop i)=rZ [] l)/\Hid (KP (prd (l.take i)) k)/\Below w.heap.size w wr) (fun _ s _=>l.length - (intOf s).toNat)
 case atStart=>exact⟨0,1,rfl,rfl,nQ _,by simp[Hid],⟨by omega,fun _=>rfl,fun h=>by simp[prd] at h⟩,aQ _ _⟩
 case round =>
  obtain⟨i,k,rfl,rfl,hi,HI,HK,hbl⟩:=hrel;by_cases h1:i<l.length
  ·obtain⟨b,o,nm,sz,rfl,hb,hgt,c1,c2,hn⟩:=HP.out.get hB hbl h1
   have ST:Hid (rZ [] l=if eZ nm.data.toList then (if (l.take i).any (fun d=>decide (d.1=nm)) then 7 else if sz<1\/4096<sz then 3 else rZ (l.take (i+1)) (l.drop (i+1))) else 2):=HI.out.symm.trans (l7 hgt);have HPN:Hid (prd (l.take (i+1))=prd (l.take i)*sz.toNat):=i7 hgt;have hk16:k<=16777216:=HK.out.1;clear hgt HI;have hsz:=hbl.size;cases hnm:eZ nm.data.toList with
   | false =>
    have HN:Hid (eZ nm.data.toList=false):=hnm;clear hnm;obtain rfl:2=er:=by rw[<-HR.out,HE.out,ST.out,HN.out];simp
    go_wp2_with fail;refine(n8 nm hn _ false HN.out).mono ?_;rintro e w1 ⟨rfl,rfl⟩;go_wp2;go_ret;exact⟨rfl,bal hbl _⟩
   | true =>
    have HN:Hid (eZ nm.data.toList=true):=hnm;clear hnm;go_wp2_with fail;refine(n8 nm hn _ true HN.out).mono ?_;rintro e w1 ⟨rfl,rfl⟩;obtain⟨wq,hwq⟩:∃ wq:World,wq=wr:=⟨_,rfl⟩;subst hwq;obtain⟨wo,hwo⟩:∃ wo:World,wo=wq.alloc (.cells #[.string nm,.int .i64 sz] 82):=⟨_,rfl⟩;have hblo:Below w.heap.size w wo:=by rw[hwo];exact bal hbl _
    have d0:wo.cell? ⟨wq.heap.size,0,none⟩=some (.string nm):=by rw[hwo];exact yK _ _ _ _ rfl
    have d1:wo.cell? ⟨wq.heap.size,1,none⟩=some (.int .i64 sz):=by rw[hwo];exact yK _ _ _ _ rfl
    have hz0:wq.heap.size<wo.heap.size:=by rw[hwo];simp
    rw[<-hwo];have HT:Hid (eQ wo B (.slice (some ⟨b,o,none⟩) i c) (l.take i)):=(HP.out.take i hi).at hB hblo;have hti:Hid ((l.take i).length=i):=by show _=_;rw[lU];omega
    have hBo:B<=wo.heap.size:=by omega
    clear hwo hbl c1 c2;go_wp2
    go_loopw [31] (fun s wi=>∃ (j:Nat),s=.int .i64 (j:Int)/\j<=i/\Hid (((l.take i).take j).any (fun d=>decide (d.1=nm))=false)/\Below wo.heap.size wo wi) (fun s _=>i - (intOf s).toNat)
    case atStart=>exact⟨0,rfl,nQ _,by simp[Hid],aQ _ _⟩
    case round =>
     obtain⟨j,rfl,hj,HJ,hbi⟩:=hrel;have d2:wr.cell? ⟨wq.heap.size,0,none⟩=some (.string nm):=(hbi.cell (p:=⟨wq.heap.size,0,none⟩) hz0).trans d0;have d3:wr.cell? ⟨wq.heap.size,1,none⟩=some (.int .i64 sz):=(hbi.cell (p:=⟨wq.heap.size,1,none⟩) hz0).trans d1;have hbr:Below w.heap.size w wr:=bt hblo hbi;have hzr:=hbi.size;clear d0 d1;by_cases hj1:j<i
     ·obtain⟨b',o',nm2,sz2,hbo,_,hgt2,e1,e2,_⟩:=HT.out.get hBo hbi (i:=j) (by rw[hti.out];exact hj1)
      simp only[vX,mF] at hbo;obtain⟨rfl,rfl,_⟩:=hbo;have HG2:Hid ((l.take i)[j]? = some (nm2,sz2)):=hgt2;clear hgt2;have d4:(wr.alloc (.cells #[.string nm2,.int .i64 sz2] 82)).cell? ⟨wq.heap.size,0,none⟩=some (.string nm):=((ba wr _).cell (p:=⟨wq.heap.size,0,none⟩) (qX hz0 hzr)).trans d2;cases heq:decide (nm2=nm) with
      | true =>
       have HE2:Hid (decide (nm2=nm)=true):=heq;have hq:(nm2.toList == nm.toList)=true:=(pL _ _).trans heq;clear heq
       obtain rfl:7=er:=by
        rw[<-HR.out,HE.out,ST.out,HN.out,d8 HG2.out HE2.out];simp
       go_wp2;go_ret;exact⟨rfl,bal hbr _⟩
      | false =>
       have HE2:Hid (decide (nm2=nm)=false):=heq;have hq:(nm2.toList == nm.toList)=false:=(pL _ _).trans heq;clear heq;go_wp2
       go_roundw
       case rel=>exact⟨j+1,by go_num,hj1,by show _=_;rw[b8 HG2.out,HJ.out,HE2.out];rfl,bal hbi _⟩
       case measure=>simp[intOf];omega
     ·have HA:Hid ((l.take i).any (fun d=>decide (d.1=nm))=false):=by
       have:=HJ.out;rwa [fV (by rw[hti.out];omega)] at this
      by_cases hz:sz<1\/4096<sz
      ·obtain rfl:3=er:=by rw[<-HR.out,HE.out,ST.out,HN.out,HA.out];simp[hz]
       by_cases hz1:sz<1
       ·clear hz
        go_wp2;go_ret;exact⟨rfl,hbr⟩
       ·have hz2:4096<sz:=by omega
        clear hz;go_wp2;go_ret;exact⟨rfl,hbr⟩
      ·have HI2:Hid (rZ (l.take (i+1)) (l.drop (i+1))=rZ [] l):=by show _=_;rw[ST.out,HN.out,HA.out];simp[hz]
       have hz1:¬ sz<1:=by omega
       have hz2:¬ 4096<sz:=by omega
       clear hz;by_cases hk2:k<=4096
       ·have HK2:Hid (KP (prd (l.take (i+1))) (k*sz.toNat)):=by show KP _ _;rw[HPN.out];exact HK.out.lo hk2 (by omega)
        have HKI:Hid ((k:Int)*sz=((k*sz.toNat:Nat):Int)):=by
         show _=_
         rw[Int.natCast_mul,Int.toNat_of_nonneg (by omega)]
        have hw:wrap64 ((k:Int)*sz)=(k:Int)*sz:=kK (by have:=HKI.out;have:=HK2.out.1;omega);go_wp2
        go_roundw
        case rel=>exact⟨i+1,k*sz.toNat,by first|exact congrArg _ HKI.out|(rw[hw];exact congrArg _ HKI.out),by go_num,h1,HI2,HK2,hbr⟩
        case measure=>simp[intOf];omega
       ·have HK2:Hid (KP (prd (l.take (i+1))) k):=by show KP _ _;rw[HPN.out];exact HK.out.hi (by omega) (by omega)
        go_wp2
        go_roundw
        case rel=>exact⟨i+1,k,rfl,by go_num,h1,HI2,HK2,hbr⟩
        case measure=>simp[intOf];omega
  ·have HN:Hid (rZ [] l=0):=by have:=HI.out;rw[qD (by omega)] at this;exact this.symm.trans rfl
   have HK2:Hid (KP (prd l) k):=by have:=HK.out;rwa [fV (by omega)] at this
   have hk16:k<=16777216:=HK.out.1;by_cases hpz:4096<k
   ·obtain rfl:4=er:=by rw[<-HR.out,HE.out,HN.out,xQ rfl,xQ (by have:=HK2.out.2.1;omega)]
    go_wp2;go_ret;exact⟨rfl,hbl⟩
   ·obtain rfl:0=er:=by rw[<-HR.out,HE.out,HN.out,xQ rfl,qQ (by have:=HK2.out.2.2;omega)]
    go_wp2;go_ret;exact⟨rfl,hbl⟩
