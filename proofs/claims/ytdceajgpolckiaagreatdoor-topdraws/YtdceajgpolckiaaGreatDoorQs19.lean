import Derived.Test.YtdceajgpolckiaaGreatDoorQs18
import Derived.RangeFuncBox
import Derived.Laws.EntriesVeiled
import Derived.RegionDies
open Go.Proofs.Tryz
set_option linter.unusedSimpArgs false
set_option maxHeartbeats 16000000
set_option maxRecDepth 100000
namespace Go.Proofs.YtdceajgpolckiaaGreatDoor
namespace K
open Go.RowKit K.Ds
theorem Boxed.at {w w':World}{b:Nat}{t:TypeId}{v:Value}(h:Boxed w b t v)(hb:Below w.heap.size w w'):Boxed w' b t v:=(hb.block b h.lt).trans h
def tG (w:World) (V:Value) (e:Nat × Int × Int):Prop :=
 ∃ h i p,V=.func (.func 205) #[] #[.pointer (some ⟨h,0,none⟩),.pointer (some ⟨i,0,none⟩)]/\Boxed w h 251 (kU e.2.1 p)/\Boxed w i 3 (.int .i64 (e.1:Int))/\Boxed w p 3 (.int .i64 e.2.2)
theorem tG.at {w w':World}{V:Value}{e:Nat × Int × Int}(h:tG w V e)(hb:Below w.heap.size w w'):tG w' V e:=by
 obtain⟨h,i,p,e,h1,h2,h3⟩:=h;exact⟨h,i,p,e,Boxed.at h1 hb,Boxed.at h2 hb,Boxed.at h3 hb⟩
def zF (w:World) (lo:Nat) (v:Value) (es:List (Value × Nat × Int × Int)):Prop :=
 w.ownsRow lo 67 1 v es.length (es.map (·.1))/\∀ e∈es,tG w e.1 e.2
theorem zF.at {w w':World}{lo:Nat}{v:Value}{es:List (Value × Nat × Int × Int)}(h:zF w lo v es)(hb:Below w.heap.size w w'):zF w' lo v es :=
 ⟨pI h.1 hb,fun e he=>(h.2 e he).at hb⟩
theorem tG.grow {w w':World}{V v:Value}{e:Nat × Int × Int}{lo n:Nat}{xs:List Value}(h:tG w V e)(hr:w.ownsRow lo 67 1 v n xs)(hg:w.grownBy w' v.ownBlock):tG w' V e:=by
 obtain⟨h,i,p,e,h1,h2,h3⟩:=h;exact⟨h,i,p,e,h1.kept hg (h1.not_row (by decide) hr),h2.kept hg (h2.not_row (by decide) hr),h3.kept hg (h3.not_row (by decide) hr)⟩
theorem tG.setb {w:World}{V u v:Value}{e:Nat × Int × Int}{A:Nat}(h:tG w V e)(hA:Boxed w A 295 u):tG (w.setCell ⟨A,0,none⟩ v) V e:=by
 have ne:∀ {b:Nat} {t:TypeId} {x:Value},Boxed w b t x->t≠295->some b≠some A:=by
  intro b t x hb ht e;simp only[sX] at e;subst e;have:=(show w.heap[b]? = _ from hb).symm.trans (show w.heap[b]? = _ from hA);simp at this;exact ht this.2
 obtain⟨h,i,p,e,h1,h2,h3⟩:=h;exact⟨h,i,p,e,h1.kept (grownBy_setCell' _ _ _) (ne h1 (by decide)),h2.kept (grownBy_setCell' _ _ _) (ne h2 (by decide)),h3.kept (grownBy_setCell' _ _ _) (ne h3 (by decide))⟩
def trp (l:List vQ) (t:tX):Nat × Int × Int:=((fnd l t.1).getD 0,t.2.1,t.2.2)
def b5J (w:World) (ps:List (Nat × Int × Int)) (er:Int) (e:Ending) (w':World):Prop :=
 Below w.heap.size w w'/\((er=0/\∃ A sv es,w.heap.size<=A/\e=.returned (.func (.func 206) #[] #[.pointer (some ⟨A,0,none⟩)])/\Boxed w' A 295 sv/\zF w' w.heap.size sv es/\es.map (·.2)=ps)\/(er≠0/\e=.panicked (chn er)))
theorem b6Q:(prog.info? 67).map (fun i=>(i.zero,i.size,i.bytes))=some (some .nilFunc,1,8):=by kernel_rfl
theorem vL (B:Nat)(lv v:Value)(l:List vQ)(wh:List tX)(w:World)(hB:B<=w.heap.size)(hp:dQ w B lv l)(hq:vZ w B v wh)(er:Int)(hr:gJ l wh=er) :
  Calls prog 180 #[lv,v] w fun e w'=>b5J w (wh.map (trp l)) er e w':=by
 have HP:Hid (dQ w B lv l):=hp;have HQ:Hid (vZ w B v wh):=hq;have HR:Hid (gJ l wh=er):=hr;obtain⟨a,c,rfl,hc,hl⟩:=hq.slice;obtain⟨a',c',rfl,hc',hl'⟩:=hp.slice;obtain⟨i0,hi0,hz0,hz1,hz2⟩:=nY b6Q;have hmf:=hmf;clear hr;go_enter func180,ntmps180;by_cases h64:64<wh.length
 ·obtain rfl:4=er:=by rw[<-HR.out,gJ,zQ h64]
  have hle:¬ (wh.length:Int)<=64:=by omega
  go_wp2_with fail;refine(bV 4 w).mono ?_;rintro e w2 ⟨rfl,rfl⟩;go_wp2;exact⟨rfl,uQ _ _,.inr ⟨by decide,rfl⟩⟩
 have HR2:Hid (eD l wh=er):=by have:=HR.out;rwa [gJ,qQ h64] at this
 have hle:(wh.length:Int)<=64:=by omega
 go_wp2_with fail;refine(sG 4 w).mono ?_;rintro e w2 ⟨rfl,rfl⟩;go_wp2
 go_loopw [16] (fun s wr=>∃ (i:Nat),s=.int .i64 (i:Int)/\i<=wh.length/\Hid (eD l (wh.drop i)=er)/\Below w2.heap.size w2 wr /\
  ∃ sv es,Boxed wr w2.heap.size 295 sv/\zF wr w2.heap.size sv es/\es.map (·.2)=(wh.take i).map (trp l)) (fun s _=>wh.length - (intOf s).toNat)
 case atStart=>exact⟨0,rfl,mQ _,by simpa [Hid] using HR2.out,ba _ _,.slice none 0 0,[],Boxed.new _ _ _,⟨⟨rfl,.inl ⟨rfl,rfl⟩⟩,fun e he=>by cases he⟩,by simp⟩
 case round =>
  obtain⟨i,rfl,hi,HI,hbl,sv,es,hbx,hts,hes⟩:=hrel;have HBX:Hid (Boxed wr w2.heap.size 295 sv):=hbx;have HT:Hid (zF wr w2.heap.size sv es):=hts;have HES:Hid (es.map (·.2)=(wh.take i).map (trp l)):=hes;have hsz:=hbl.size;clear hbx hes;obtain⟨sa,sc,rfl⟩:=oK hts.1;clear hts;by_cases h1:i<wh.length
  ·obtain⟨b,o,nm,d,z,rfl,hb,hgt,c1,c2,c3,hn⟩:=HQ.out.get hB hbl h1
   have HG:Hid (wh[i]? = some (nm,d,z)):=hgt;have HST:Hid (eD l (wh.drop i)=if (fnd l nm).isSome then (if pV d then eD l (wh.drop (i+1)) else 1) else 7):=b1X hgt;have kcol:dQ (wr.alloc (.cells #[.string nm,.int .i64 d,.int .i64 z] 257)) B (.slice a' l.length c') l:=(HP.out.at hB hbl).at (by omega) (ba _ _);clear hgt;cases hf:fnd l nm with
   | none =>
    obtain rfl:7=er:=by rw[<-HI.out,HST.out,hf];rfl
    have k1:=nO B _ l nm _ (by simp;omega) kcol hf;clear hf kcol;go_wp2_with fail;refine k1.mono ?_;rintro e w3 ⟨rfl,hb3⟩;go_wp2;exact⟨rfl,bt (bal hbl _) hb3,.inr ⟨by decide,rfl⟩⟩
   | some p =>
    have k1:=qL B _ l nm _ (by simp;omega) kcol p hf;have HF:Hid (fnd l nm=some p):=hf;clear hf kcol;go_wp2_with fail;refine k1.mono ?_;rintro e w3 ⟨rfl,hb3⟩;clear k1;have e0:Cl w3 wr.heap.size 0 (.string nm):=(Cl.new (w:=wr) #[.string nm,.int .i64 d,.int .i64 z] 257 0 _ rfl rfl).at hb3;have e1:Cl w3 wr.heap.size 1 (.int .i64 d):=(Cl.new (w:=wr) #[.string nm,.int .i64 d,.int .i64 z] 257 1 _ rfl rfl).at hb3;have e2:Cl w3 wr.heap.size 2 (.int .i64 z):=(Cl.new (w:=wr) #[.string nm,.int .i64 d,.int .i64 z] 257 2 _ rfl rfl).at hb3;have hb3':Below wr.heap.size wr w3:=bt (ba _ _) hb3;have t1:=(e1.at (ba w3 (.cells #[.int .i64 (p:Int)] 3))).c;have t2:=(e2.at (ba w3 (.cells #[.int .i64 (p:Int)] 3))).c;cases hd:pV d with
    | false =>
     obtain rfl:1=er:=by rw[<-HI.out,HST.out,HF.out,hd];rfl
     have k2:=b4J d z (w3.alloc (.cells #[.int .i64 (p:Int)] 3)) hd;clear hd;go_wp2_with fail;refine k2.mono ?_;rintro e w4 ⟨rfl,hb4⟩;go_wp2;exact⟨rfl,bt (bt hbl (bt hb3' (ba _ _))) hb4,.inr ⟨by decide,rfl⟩⟩
    | true =>
     have k2:=b4Z d z (w3.alloc (.cells #[.int .i64 (p:Int)] 3)) hd;have HI2:Hid (eD l (wh.drop (i+1))=er):=by have:=HI.out;rwa [HST.out,HF.out,hd] at this
     clear hd;go_wp2_with fail;refine k2.mono ?_;rintro e w4 ⟨rfl,hw4⟩;have es1:(w3.alloc (.cells #[.int .i64 (p:Int)] 3)).heap.size=w3.heap.size+1:=by simp
     rw[es1];have hs4:Hid (w4.heap.size=w3.heap.size+2):=by show _=_;rw[hw4];simp
     have X1:Boxed w4 w3.heap.size 3 (.int .i64 (p:Int)):=by rw[hw4];exact(Boxed.new w3 3 _).alloc _
     have X2:Boxed w4 (w3.heap.size+1) 3 (.int .i64 z):=by rw[hw4];have:=Boxed.new (w3.alloc (.cells #[.int .i64 (p:Int)] 3)) 3 (.int .i64 z);rwa [es1] at this
     have hb34:Below w3.heap.size w3 w4:=by rw[hw4];exact bal (ba _ _) _
     have hb4:Below wr.heap.size wr w4:=bt hb3' hb34;clear hw4 k2 t1 t2 e0 e1 e2 hb3 hb34 es1;obtain⟨W5,hW5⟩:∃ W5,w4.alloc (.cells #[kU d (w3.heap.size+1)] 251)=W5:=⟨_,rfl⟩;have hb5:Below wr.heap.size wr W5:=by rw[<-hW5];exact bal hb4 _
     have hs5:Hid (W5.heap.size=w4.heap.size+1):=by show _=_;rw[<-hW5];simp
     have Y1:=Boxed.at X1 (by rw[<-hW5];exact ba _ _:Below w4.heap.size w4 W5);have Y2:=Boxed.at X2 (by rw[<-hW5];exact ba _ _:Below w4.heap.size w4 W5);have Y3:Boxed W5 w4.heap.size 251 (kU d (w3.heap.size+1)):=by rw[<-hW5];exact Boxed.new w4 251 _
     have YA:Boxed W5 w2.heap.size 295 (.slice sa es.length sc):=Boxed.at HBX.out hb5;have YT:zF W5 w2.heap.size (.slice sa es.length sc) es:=HT.out.at hb5;have tA:=YA.cell;have HY:Hid (Boxed W5 w3.heap.size 3 (.int .i64 (p:Int))/\Boxed W5 (w3.heap.size+1) 3 (.int .i64 z)/\Boxed W5 w4.heap.size 251 (kU d (w3.heap.size+1))/\Boxed W5 w2.heap.size 295 (.slice sa es.length sc)/\zF W5 w2.heap.size (.slice sa es.length sc) es):=⟨Y1,Y2,Y3,YA,YT⟩;clear Y1 Y2 Y3 X1 X2 YA YT;have HW5:Hid (w4.alloc (.cells #[kU d (w3.heap.size+1)] 251)=W5):=hW5;have tA2:(w4.alloc (.cells #[kU d (w3.heap.size+1)] 251)).cell? ⟨w2.heap.size,0,none⟩=some (.slice sa es.length sc):=by rw[hW5];exact tA
     have HO:Hid (((w4.alloc (.cells #[kU d (w3.heap.size+1)] 251)).alloc (.cells #[.func (.func 205) #[] #[.pointer (some ⟨w4.heap.size,0,none⟩),.pointer (some ⟨w3.heap.size,0,none⟩)]] 67)).ownsRow w2.heap.size 67 1 (.slice sa es.length sc) es.length (es.map (·.1))):=by
      show World.ownsRow _ _ _ _ _ _ _;rw[hW5];exact pI HY.out.2.2.2.2.1 (ba _ _)
     have hlen:Hid (es.length<=64):=by have:=congrArg List.length HES.out;simp at this;show _<=_;omega
     have hsA:Hid (w2.heap.size<=w4.heap.size):=by show _<=_;exact aQ hsz hb4.size
     clear hW5 tA;simp only[kU] at tA2 HO ⊢;go_wp2_with (at_builtin;refine eI _ rfl _ _ 295 rfl w2.heap.size 67 i0 .nilFunc 1 8 underlying295 hi0 hz0 hz1 hz2 rfl (by decide) _ _ _ rfl HO.out ⟨w4.heap.size+1,0,none⟩ 1 1 [.func (.func 205) #[] #[.pointer (some ⟨w4.heap.size,0,none⟩),.pointer (some ⟨w3.heap.size,0,none⟩)]] rfl ?q1 ?q2 ?q3 ?q4 ?q5 ?q6 ?_)
     case q1=>rfl
     case q2 =>
      intro j u hj
      match j,hj with
      | 0,hj=>simp at hj;subst hj;simp[go_sem,Addr.add]
     case q3=>intro u hu;simp at hu;subst hu;rfl
     case q4=>have:=hlen.out;simp[maxLen];omega
     case q5=>have:=hlen.out;omega
     case q6=>have:=hsA.out;simp;omega
     intro v6 w6 hown6 hgrow hnil;rw[show(w4.alloc (.cells #[.func (.func (231+d.toNat)) #[] #[.pointer (some ⟨w3.heap.size+1,0,none⟩)]] 251))=W5 from HW5.out] at hgrow;obtain⟨Z1,Z2,Z3,_,Z5⟩:=Boxed.appended HY.out.2.2.2.1 (by decide) HY.out.2.2.2.2.1 (aQ hsz hb5.size) (jQ _) hown6 hgrow;obtain⟨va,vc,rfl⟩:=oK hown6
     have ZC:Hid (zF (w6.setCell ⟨w2.heap.size,0,none⟩ (.slice va (es.length+1) vc)) w2.heap.size (.slice va (es.length+1) vc) (es++[(.func (.func 205) #[] #[.pointer (some ⟨w4.heap.size,0,none⟩),.pointer (some ⟨w3.heap.size,0,none⟩)],(p,d,z))])):=by
      have key:∀ V e,tG W5 V e->tG (w6.setCell ⟨w2.heap.size,0,none⟩ (.slice va (es.length+1) vc)) V e:=fun V e he =>
       ((he.at (ba _ _)).grow (pI HY.out.2.2.2.2.1 (ba _ _)) hgrow).setb Z1
      refine⟨by simpa using Z3,fun e he=>?_⟩;rcases uY.1 he with he|he
      ·exact key _ _ (HY.out.2.2.2.2.2 e he)
      ·obtain rfl:=eN.1 he
       exact key _ _ ⟨_,_,_,rfl,HY.out.2.2.1,HY.out.1,HY.out.2.1⟩
     have ZE:Hid ((es++[((.func (.func 205) #[] #[.pointer (some ⟨w4.heap.size,0,none⟩),.pointer (some ⟨w3.heap.size,0,none⟩)]:Value),(p,d,z))]).map (·.2)=(wh.take (i+1)).map (trp l)):=by
      show _=_
      rw[aG,HES.out,nZ,HG.out,aG];simp[trp,HF.out]
     have hbz:Below w2.heap.size w2 (w6.setCell ⟨w2.heap.size,0,none⟩ (.slice va (es.length+1) vc)):=(bt hbl hb5).trans Z5;have ZB:Hid (Boxed (w6.setCell ⟨w2.heap.size,0,none⟩ (.slice va (es.length+1) vc)) w2.heap.size 295 (.slice va (es.length+1) vc)):=Z2;have z1:=Z1.cell;have z2:=Z1.frozen;clear Z1 Z2 Z3 Z5 hgrow hown6 hnil tA2 HO;go_wp2
     go_roundw
     case rel=>exact⟨i+1,by go_num,h1,HI2,hbz,_,_,ZB.out,ZC.out,ZE.out⟩
     case measure=>simp[intOf];omega
  ·obtain rfl:0=er:=by have:=HI.out;rw[gF (by omega)] at this;exact this
   have HES2:Hid (es.map (·.2)=wh.map (trp l)):=by have:=HES.out;rwa [eV (by omega)] at this
   go_wp2;go_ret;exact⟨hbl,.inl ⟨rfl,_,_,es,jQ _,rfl,HBX.out,HT.out,HES2.out⟩⟩
def eM:Except Int rX->Ending
 | .error e=>.panicked (chn e)
 | .ok b=>.returned (.agg #[.int .i64 b.1,.int .i64 b.2.1,.int .i64 b.2.2])
structure Rk (W:World) (N:Nat) (k:Int) (c:ByteArray) (lo hi:Int) (wv kv:Value) (x1 x2 x3 y1 y2 y3:Int):Prop where
 a0:Cl W N 0 (.int .i64 k)
 a1:Cl W N 1 (.string c)
 a2:Cl W N 2 (.int .i64 lo)
 a3:Cl W N 3 (.int .i64 hi)
 a4:Cl W N 4 wv
 a5:Cl W N 5 kv
 b0:Cl W (N+1) 0 (.int .i64 x1)
 b1:Cl W (N+1) 1 (.int .i64 x2)
 b2:Cl W (N+1) 2 (.int .i64 x3)
 d0:Cl W (N+1+1) 0 (.int .i64 y1)
 d1:Cl W (N+1+1) 1 (.int .i64 y2)
 d2:Cl W (N+1+1) 2 (.int .i64 y3)
 e0:Cl W (N+1+1+1) 0 (.int .i64 0)
 e1:Cl W (N+1+1+1) 1 (.int .i64 0)
 e2:Cl W (N+1+1+1) 2 (.int .i64 0)
theorem Rk.at {W W':World}{N:Nat}{k:Int}{c:ByteArray}{lo hi:Int}{wv kv:Value}{x1 x2 x3 y1 y2 y3:Int}(h:Rk W N k c lo hi wv kv x1 x2 x3 y1 y2 y3)(hb:Below W.heap.size W W'):Rk W' N k c lo hi wv kv x1 x2 x3 y1 y2 y3 :=
 ⟨h.a0.at hb,h.a1.at hb,h.a2.at hb,h.a3.at hb,h.a4.at hb,h.a5.at hb,h.b0.at hb,h.b1.at hb,h.b2.at hb,h.d0.at hb,h.d1.at hb,h.d2.at hb,h.e0.at hb,h.e1.at hb,h.e2.at hb⟩
theorem Rk.new (w:World)(k:Int)(c:ByteArray)(lo hi:Int)(wv kv:Value)(x1 x2 x3 y1 y2 y3:Int) :
  Rk ((((w.alloc (.cells #[.int .i64 k,.string c,.int .i64 lo,.int .i64 hi,wv,kv] 36)).alloc (.cells #[.int .i64 x1,.int .i64 x2,.int .i64 x3] 123)).alloc (.cells #[.int .i64 y1,.int .i64 y2,.int .i64 y3] 123)).alloc (.cells #[.int .i64 0,.int .i64 0,.int .i64 0] 123)) w.heap.size k c lo hi wv kv x1 x2 x3 y1 y2 y3:=by
 constructor
 all_goals first
  | exact(((Cl.new _ 36 _ _ rfl rfl).at (ba _ _)).at (ba _ _)).at (ba _ _)
  | exact((Cl.new _ 123 _ _ (by simp) rfl).at (ba _ _)).at (ba _ _)
  | exact(Cl.new _ 123 _ _ (by simp) rfl).at (ba _ _)
  | exact Cl.new _ 123 _ _ (by simp) rfl
abbrev fD (w:World) (lv:Value) (k:Int) (c:ByteArray) (lo hi:Int) (wv kv:Value) (x1 x2 x3 y1 y2 y3:Int) (r:Except Int rX):Prop :=
 Calls prog 125 #[lv,.agg #[.int .i64 k,.string c,.int .i64 lo,.int .i64 hi,wv,kv],.agg #[.int .i64 x1,.int .i64 x2,.int .i64 x3],.agg #[.int .i64 y1,.int .i64 y2,.int .i64 y3]] w fun e w'=>e=eM r/\Below w.heap.size w w'
theorem b4 (w:World)(o1 o2 o3 o4:Obj):Below w.heap.size w ((((w.alloc o1).alloc o2).alloc o3).alloc o4):=bal (bal (bal (ba _ _) _) _) _
theorem iT {w W:World}(h:Below w.heap.size w W)(u0 u1 u2:Value):Below w.heap.size w (((W.setCell ⟨w.heap.size+1+1+1,0,none⟩ u0).setCell ⟨w.heap.size+1+1+1,1,none⟩ u1).setCell ⟨w.heap.size+1+1+1,2,none⟩ u2) :=
 bs (bs (bs h (by dsimp only;omega) _) (by dsimp only;omega) _) (by dsimp only;omega) _
theorem b6X (lv:Value)(c:ByteArray)(lo hi:Int)(wv kv:Value)(x1 x2 x3 y1 y2 y3:Int)(hx:gZ (x1,x2,x3))(hy:gZ (y1,y2,y3))(w:World):fD w lv 7 c lo hi wv kv x1 x2 x3 y1 y2 y3 (.ok (x1+y1,x2+y2,mx x3 y3)):=by
 obtain⟨p1,p2,p3,p4,p5,p6⟩:=hx;obtain⟨q1,q2,q3,q4,q5,q6⟩:=hy;simp only at p1 p2 p3 p4 p5 p6 q1 q2 q3 q4 q5 q6;go_enter func125,ntmps125;go_wp2
 ·exact yQ (v:=.agg #[.int .i64 (x1+y1),.int .i64 (x2+y2),.int .i64 (y3)]) (by simp[results,results125,go_sem]) rfl ⟨by rw[show mx x3 y3=y3 by unfold mx;split <;> omega];rfl,b4 _ _ _ _ _⟩
 ·exact yQ (v:=.agg #[.int .i64 (x1+y1),.int .i64 (x2+y2),.int .i64 (x3)]) (by simp[results,results125,go_sem]) rfl ⟨by rw[show mx x3 y3=x3 by unfold mx;split <;> omega];rfl,b4 _ _ _ _ _⟩
theorem b6Z (lv:Value)(c:ByteArray)(lo hi:Int)(wv kv:Value)(x1 x2 x3 y1 y2 y3:Int)(hx:gZ (x1,x2,x3))(hy:gZ (y1,y2,y3))(w:World):fD w lv 8 c lo hi wv kv x1 x2 x3 y1 y2 y3 (.ok (1,x2,x1*x3)):=by
 obtain⟨p1,p2,p3,p4,p5,p6⟩:=hx;obtain⟨q1,q2,q3,q4,q5,q6⟩:=hy;simp only at p1 p2 p3 p4 p5 p6 q1 q2 q3 q4 q5 q6;have hm:=iZ p1 p2 p5 p6;have hw:wrap64 (x1*x3)=x1*x3:=sK (by omega);go_enter func125,ntmps125;go_wp2;exact yQ (v:=.agg #[.int .i64 (1),.int .i64 (x2),.int .i64 (x1*x3)]) (by simp[results,results125,go_sem]) rfl ⟨rfl,b4 _ _ _ _ _⟩
theorem b6J (lv:Value)(c:ByteArray)(lo hi:Int)(wv kv:Value)(x1 x2 x3 y1 y2 y3:Int)(hx:gZ (x1,x2,x3))(hy:gZ (y1,y2,y3))(w:World):fD w lv 4 c lo hi wv kv x1 x2 x3 y1 y2 y3 (if x1=y1 then .ok (x1,x2+y2,x3+y3) else .error 8):=by
 obtain⟨p1,p2,p3,p4,p5,p6⟩:=hx;obtain⟨q1,q2,q3,q4,q5,q6⟩:=hy;simp only at p1 p2 p3 p4 p5 p6 q1 q2 q3 q4 q5 q6;go_enter func125,ntmps125;by_cases h:x1=y1
 ·rw[zQ h]
  subst h;go_wp2_with fail;refine(sG 8 _).mono ?_;rintro e w2 ⟨rfl,rfl⟩;go_wp2;exact yQ (v:=.agg #[.int .i64 (x1),.int .i64 (x2+y2),.int .i64 (x3+y3)]) (by simp[results,results125,go_sem]) rfl ⟨rfl,b4 _ _ _ _ _⟩
 ·rw[qQ h]
  have hq:(x1 == y1)=false:=by simpa using h
  go_wp2_with fail;refine(bV 8 _).mono ?_;rintro e w2 ⟨rfl,rfl⟩;go_wp2;exact⟨rfl,rfl,b4 _ _ _ _ _⟩
theorem b7Q (lv:Value)(c:ByteArray)(lo hi:Int)(wv kv:Value)(x1 x2 x3 y1 y2 y3:Int)(hx:gZ (x1,x2,x3))(hy:gZ (y1,y2,y3))(w:World):fD w lv 5 c lo hi wv kv x1 x2 x3 y1 y2 y3 (if x1=y1 then .ok (x1,x2+y2,x3+y3) else .error 8):=by
 obtain⟨p1,p2,p3,p4,p5,p6⟩:=hx;obtain⟨q1,q2,q3,q4,q5,q6⟩:=hy;simp only at p1 p2 p3 p4 p5 p6 q1 q2 q3 q4 q5 q6;go_enter func125,ntmps125;by_cases h:x1=y1
 ·rw[zQ h]
  subst h;go_wp2_with fail;refine(sG 8 _).mono ?_;rintro e w2 ⟨rfl,rfl⟩;go_wp2;exact yQ (v:=.agg #[.int .i64 (x1),.int .i64 (x2+y2),.int .i64 (x3+y3)]) (by simp[results,results125,go_sem]) rfl ⟨rfl,b4 _ _ _ _ _⟩
 ·rw[qQ h]
  have hq:(x1 == y1)=false:=by simpa using h
  go_wp2_with fail;refine(bV 8 _).mono ?_;rintro e w2 ⟨rfl,rfl⟩;go_wp2;exact⟨rfl,rfl,b4 _ _ _ _ _⟩
theorem b7X (lv:Value)(c:ByteArray)(lo hi:Int)(wv kv:Value)(x1 x2 x3 y1 y2 y3:Int)(hx:gZ (x1,x2,x3))(hy:gZ (y1,y2,y3))(w:World):fD w lv 9 c lo hi wv kv x1 x2 x3 y1 y2 y3 (if 0<=lo/\lo<x1 then .ok (1,x2,x3) else .error 3):=by
 obtain⟨p1,p2,p3,p4,p5,p6⟩:=hx;obtain⟨q1,q2,q3,q4,q5,q6⟩:=hy;simp only at p1 p2 p3 p4 p5 p6 q1 q2 q3 q4 q5 q6;go_enter func125,ntmps125;by_cases h:0<=lo/\lo<x1
 ·rw[zQ h]
  obtain⟨h1,h2⟩:=h;go_wp2_with fail;refine(sG 3 _).mono ?_;rintro e w2 ⟨rfl,rfl⟩;go_wp2;exact yQ (v:=.agg #[.int .i64 (1),.int .i64 (x2),.int .i64 (x3)]) (by simp[results,results125,go_sem]) rfl ⟨rfl,b4 _ _ _ _ _⟩
 ·rw[qQ h]
  by_cases h1:0<=lo
  ·have h2:¬ lo<x1:=fun h2=>h ⟨h1,h2⟩
   go_wp2_with fail;refine(bV 3 _).mono ?_;rintro e w2 ⟨rfl,rfl⟩;go_wp2;exact⟨rfl,rfl,b4 _ _ _ _ _⟩
  ·go_wp2_with fail
   refine(bV 3 _).mono ?_;rintro e w2 ⟨rfl,rfl⟩;go_wp2;exact⟨rfl,rfl,b4 _ _ _ _ _⟩
theorem b7Z (lv:Value)(c:ByteArray)(lo hi:Int)(wv kv:Value)(x1 x2 x3 y1 y2 y3:Int)(hx:gZ (x1,x2,x3))(hy:gZ (y1,y2,y3))(w:World):fD w lv 6 c lo hi wv kv x1 x2 x3 y1 y2 y3 (if aV lo lo then .ok (x1,spn lo lo*x2,spn lo lo*x3) else .error 3):=by
 obtain⟨p1,p2,p3,p4,p5,p6⟩:=hx;obtain⟨q1,q2,q3,q4,q5,q6⟩:=hy;simp only at p1 p2 p3 p4 p5 p6 q1 q2 q3 q4 q5 q6;go_enter func125,ntmps125;cases h:aV lo lo with
 | true =>
  have h0:=jI h;have m1:=iZ h0.1 h0.2 p3 p4;have m2:=iZ h0.1 h0.2 p5 p6;have k1:=fun W=>fT lo lo W h;obtain⟨s,hs⟩:∃ s,spn lo lo=s:=⟨_,rfl⟩;rw[hs] at h0 m1 m2 k1;rw[zQ rfl,hs];have hw1:wrap64 (s*x2)=s*x2:=sK (by omega);have hw2:wrap64 (s*x3)=s*x3:=sK (by omega);clear hs h;go_wp2_with fail;refine(k1 _).mono ?_;rintro e w2 ⟨rfl,rfl⟩;clear k1;go_wp2;exact yQ (v:=.agg #[.int .i64 (x1),.int .i64 (s*x2),.int .i64 (s*x3)]) (by simp[results,results125,go_sem]) rfl ⟨rfl,b4 _ _ _ _ _⟩
 | false =>
  rw[qQ (by simp)];go_wp2_with fail;refine(gT lo lo _ h).mono ?_;rintro e w2 ⟨rfl,rfl⟩;go_wp2;exact⟨rfl,rfl,b4 _ _ _ _ _⟩
theorem b7J (lv:Value)(c:ByteArray)(lo hi:Int)(wv kv:Value)(x1 x2 x3 y1 y2 y3:Int)(hx:gZ (x1,x2,x3))(hy:gZ (y1,y2,y3))(w:World)(B:Nat)(l:List vQ)(wh:List tX)(hB:B<=w.heap.size)(hp:dQ w B lv l)(hq:vZ w B wv wh)(r:Except Int rX)(hr:eY (gJ l wh) (1,1,4096)=r):fD w lv 1 c lo hi wv kv x1 x2 x3 y1 y2 y3 (r):=by
 obtain⟨p1,p2,p3,p4,p5,p6⟩:=hx;obtain⟨q1,q2,q3,q4,q5,q6⟩:=hy;simp only at p1 p2 p3 p4 p5 p6 q1 q2 q3 q4 q5 q6;obtain⟨er,her⟩:∃ er,gJ l wh=er:=⟨_,rfl⟩;rw[her] at hr;have HR:Hid (eY er (1,1,4096)=r):=hr;have rk:=Rk.new w 1 c lo hi wv kv x1 x2 x3 y1 y2 y3;have k1:=vL B lv wv l wh ((((w.alloc (.cells #[.int .i64 1,.string c,.int .i64 lo,.int .i64 hi,wv,kv] 36)).alloc (.cells #[.int .i64 x1,.int .i64 x2,.int .i64 x3] 123)).alloc (.cells #[.int .i64 y1,.int .i64 y2,.int .i64 y3] 123)).alloc (.cells #[.int .i64 0,.int .i64 0,.int .i64 0] 123)) (by simp;omega) (hp.at hB (b4 _ _ _ _ _)) (hq.at hB (b4 _ _ _ _ _)) er her;obtain⟨wa,wc,rfl,_⟩:=hq.slice;obtain⟨la,lc,rfl,hlc,hll⟩:=hp.slice;clear her hp hq hr;go_enter func125,ntmps125;go_wp2_with fail;refine k1.mono ?_;rintro e w1 ⟨hb1,h⟩;clear k1;have hbw:Below w.heap.size w w1:=bt (b4 _ _ _ _ _) hb1;have rk1:=rk.at hb1;clear hb1 rk;rcases h with⟨rfl,A,sv,es,_,rfl,_⟩|⟨he,rfl⟩
 ·obtain rfl:Except.ok (1,1,4096)=r:=by rw[<-HR.out,eY,zQ rfl]
  have t0:=rk1.e0.c;have t1:=rk1.e1.c;have t2:=rk1.e2.c;have s0:=rk1.e0.f;have s1:=rk1.e1.f;have s2:=rk1.e2.f;go_wp2;exact yQ (v:=.agg #[.int .i64 (1),.int .i64 (1),.int .i64 (4096)]) (by simp[results,results125,go_sem,t0,t1,t2]) rfl ⟨rfl,iT hbw _ _ _⟩
 ·obtain rfl:Except.error er=r:=by rw[<-HR.out,eY,qQ he]
  go_wp2;exact⟨rfl,rfl,hbw⟩
theorem b8Q (lv:Value)(c:ByteArray)(lo hi:Int)(wv kv:Value)(x1 x2 x3 y1 y2 y3:Int)(hx:gZ (x1,x2,x3))(hy:gZ (y1,y2,y3))(w:World)(B:Nat)(l:List vQ)(wh:List tX)(hB:B<=w.heap.size)(hp:dQ w B lv l)(hq:vZ w B wv wh)(r:Except Int rX)(hr:rec l 2 c lo hi wh (x1,x2,x3) (y1,y2,y3)=r):fD w lv 2 c lo hi wv kv x1 x2 x3 y1 y2 y3 (r):=by
 obtain⟨p1,p2,p3,p4,p5,p6⟩:=hx;obtain⟨q1,q2,q3,q4,q5,q6⟩:=hy;simp only at p1 p2 p3 p4 p5 p6 q1 q2 q3 q4 q5 q6;have rk:=Rk.new w 2 c lo hi wv kv x1 x2 x3 y1 y2 y3;have HP:Hid (dQ w B lv l):=hp;have HQ:Hid (vZ w B wv wh):=hq;have HR:Hid (rec l 2 c lo hi wh (x1,x2,x3) (y1,y2,y3)=r):=hr;obtain⟨wa,wc,rfl,_⟩:=hq.slice;obtain⟨la,lc,rfl,hlc,hll⟩:=hp.slice;clear hp hq hr;go_enter func125,ntmps125;cases hf:fnd l c with
 | none =>
  obtain rfl:Except.error 7=r:=by rw[<-HR.out];simp[rec,hf]
  have k1:=nO B _ l c ((((w.alloc (.cells #[.int .i64 2,.string c,.int .i64 lo,.int .i64 hi,.slice wa wh.length wc,kv] 36)).alloc (.cells #[.int .i64 x1,.int .i64 x2,.int .i64 x3] 123)).alloc (.cells #[.int .i64 y1,.int .i64 y2,.int .i64 y3] 123)).alloc (.cells #[.int .i64 0,.int .i64 0,.int .i64 0] 123)) (by simp;omega) (HP.out.at hB (b4 _ _ _ _ _)) hf;clear hf;go_wp2_with fail;refine k1.mono ?_;rintro e w1 ⟨rfl,hb1⟩;have hbw:Below w.heap.size w w1:=bt (b4 _ _ _ _ _) hb1;go_wp2;exact⟨rfl,rfl,hbw⟩
 | some i =>
  have HF:Hid (fnd l c=some i):=hf;have k1:=qL B _ l c ((((w.alloc (.cells #[.int .i64 2,.string c,.int .i64 lo,.int .i64 hi,.slice wa wh.length wc,kv] 36)).alloc (.cells #[.int .i64 x1,.int .i64 x2,.int .i64 x3] 123)).alloc (.cells #[.int .i64 y1,.int .i64 y2,.int .i64 y3] 123)).alloc (.cells #[.int .i64 0,.int .i64 0,.int .i64 0] 123)) (by simp;omega) (HP.out.at hB (b4 _ _ _ _ _)) i hf;clear hf;go_wp2_with fail;refine k1.mono ?_;rintro e w1 ⟨rfl,hb1⟩;have hbw:Below w.heap.size w w1:=bt (b4 _ _ _ _ _) hb1;have rk1:=rk.at hb1;clear hb1 rk k1;have hsw:=hbw.size;have rk1a0:=rk1.a0.c;have rk1a1:=rk1.a1.c;have rk1a2:=rk1.a2.c;have rk1a3:=rk1.a3.c;have rk1a4:=rk1.a4.c;cases hw:aV lo hi with
  | false =>
   obtain rfl:Except.error 3=r:=by rw[<-HR.out];simp[rec,HF.out,hw]
   go_wp2_with fail;refine(gT lo hi _ hw).mono ?_;rintro e w2 ⟨rfl,rfl⟩;go_wp2;exact⟨rfl,rfl,hbw⟩
  | true =>
   have h0:=jI hw;have k2:=fun W=>fT lo hi W hw;have HR2:Hid (eY (gJ l wh) (1,spn lo hi,4096*spn lo hi)=r):=by show _=_;have:=HR.out;simpa [rec,HF.out,hw] using this
   obtain⟨s,hs⟩:∃ s,spn lo hi=s:=⟨_,rfl⟩;obtain⟨er,her⟩:∃ er,gJ l wh=er:=⟨_,rfl⟩;rw[hs] at h0 k2 HR2;rw[her] at HR2;have k3:=vL B _ _ l wh w1 (by omega) (HP.out.at hB hbw) (HQ.out.at hB hbw) er her;clear hs hw her HR;have HR:Hid (eY er (1,s,4096*s)=r):=HR2;clear HR2;go_wp2_with fail;refine(k2 _).mono ?_;rintro e w2 ⟨rfl,rfl⟩;clear k2;go_wp2_with fail;refine k3.mono ?_;rintro e w3 ⟨hb3,h⟩;clear k3;have hbw3:Below w.heap.size w w3:=bt hbw hb3;have rk3:=rk1.at hb3;clear rk1a0 rk1a1 rk1a2 rk1a3 rk1a4;clear hb3 rk1 hbw hsw;rcases h with⟨rfl,A,sv,es,_,rfl,_⟩|⟨he,rfl⟩
   ·obtain rfl:Except.ok (1,s,4096*s)=r:=by rw[<-HR.out,eY,zQ rfl]
    have t0:=rk3.e0.c;have t1:=rk3.e1.c;have t2:=rk3.e2.c;have s0:=rk3.e0.f;have s1:=rk3.e1.f;have s2:=rk3.e2.f;go_wp2;exact yQ (v:=.agg #[.int .i64 (1),.int .i64 (s),.int .i64 (4096*s)]) (by simp[results,results125,go_sem,t0,t1,t2]) rfl ⟨rfl,iT hbw3 _ _ _⟩
   ·obtain rfl:Except.error er=r:=by rw[<-HR.out,eY,qQ he]
    go_wp2;exact⟨rfl,rfl,hbw3⟩
theorem b8X (lv:Value)(c:ByteArray)(lo hi:Int)(wv kv:Value)(x1 x2 x3 y1 y2 y3:Int)(hx:gZ (x1,x2,x3))(hy:gZ (y1,y2,y3))(w:World)(B:Nat)(l:List vQ)(wh:List tX)(hB:B<=w.heap.size)(hp:dQ w B lv l)(hq:vZ w B wv wh)(r:Except Int rX)(hr:rec l 3 c lo hi wh (x1,x2,x3) (y1,y2,y3)=r):fD w lv 3 c lo hi wv kv x1 x2 x3 y1 y2 y3 (r):=by
 obtain⟨p1,p2,p3,p4,p5,p6⟩:=hx;obtain⟨q1,q2,q3,q4,q5,q6⟩:=hy;simp only at p1 p2 p3 p4 p5 p6 q1 q2 q3 q4 q5 q6;have rk:=Rk.new w 3 c lo hi wv kv x1 x2 x3 y1 y2 y3;have HP:Hid (dQ w B lv l):=hp;have HQ:Hid (vZ w B wv wh):=hq;have HR:Hid (rec l 3 c lo hi wh (x1,x2,x3) (y1,y2,y3)=r):=hr;obtain⟨wa,wc,rfl,_⟩:=hq.slice;obtain⟨la,lc,rfl,hlc,hll⟩:=hp.slice;clear hp hq hr;go_enter func125,ntmps125;cases hf:fnd l c with
 | none =>
  obtain rfl:Except.error 7=r:=by rw[<-HR.out];simp[rec,hf]
  have k1:=nO B _ l c ((((w.alloc (.cells #[.int .i64 3,.string c,.int .i64 lo,.int .i64 hi,.slice wa wh.length wc,kv] 36)).alloc (.cells #[.int .i64 x1,.int .i64 x2,.int .i64 x3] 123)).alloc (.cells #[.int .i64 y1,.int .i64 y2,.int .i64 y3] 123)).alloc (.cells #[.int .i64 0,.int .i64 0,.int .i64 0] 123)) (by simp;omega) (HP.out.at hB (b4 _ _ _ _ _)) hf;clear hf;go_wp2_with fail;refine k1.mono ?_;rintro e w1 ⟨rfl,hb1⟩;have hbw:Below w.heap.size w w1:=bt (b4 _ _ _ _ _) hb1;go_wp2;exact⟨rfl,rfl,hbw⟩
 | some i =>
  have HF:Hid (fnd l c=some i):=hf;have k1:=qL B _ l c ((((w.alloc (.cells #[.int .i64 3,.string c,.int .i64 lo,.int .i64 hi,.slice wa wh.length wc,kv] 36)).alloc (.cells #[.int .i64 x1,.int .i64 x2,.int .i64 x3] 123)).alloc (.cells #[.int .i64 y1,.int .i64 y2,.int .i64 y3] 123)).alloc (.cells #[.int .i64 0,.int .i64 0,.int .i64 0] 123)) (by simp;omega) (HP.out.at hB (b4 _ _ _ _ _)) i hf;clear hf;go_wp2_with fail;refine k1.mono ?_;rintro e w1 ⟨rfl,hb1⟩;have hbw:Below w.heap.size w w1:=bt (b4 _ _ _ _ _) hb1;have rk1:=rk.at hb1;clear hb1 rk k1;have hsw:=hbw.size;have rk1a0:=rk1.a0.c;have rk1a1:=rk1.a1.c;have rk1a2:=rk1.a2.c;have rk1a3:=rk1.a3.c;have rk1a4:=rk1.a4.c;have HR2:Hid (eY (gJ l wh) (rV l i,1,4096)=r):=by show _=_;have:=HR.out;simpa [rec,HF.out] using this
  obtain⟨er,her⟩:∃ er,gJ l wh=er:=⟨_,rfl⟩;rw[her] at HR2;have k3:=vL B _ _ l wh w1 (by omega) (HP.out.at hB hbw) (HQ.out.at hB hbw) er her;clear her HR;have HR:Hid (eY er (rV l i,1,4096)=r):=HR2;clear HR2;go_wp2_with fail;refine k3.mono ?_;rintro e w3 ⟨hb3,h⟩;clear k3;have hbw3:Below w.heap.size w w3:=bt hbw hb3;have rk3:=rk1.at hb3;clear rk1a0 rk1a1 rk1a2 rk1a3 rk1a4;clear hb3 rk1 hbw hsw;have hil:=zI HF.out;obtain⟨b,o,nm,sz,rfl,hb,hgt,c1,c2,hn⟩:=HP.out.get hB hbw3 hil;have hsz:rV l i=sz:=by simp[rV,hgt]
  rw[hsz] at HR;clear hgt hsz;rcases h with⟨rfl,A,sv,es,_,rfl,_⟩|⟨he,rfl⟩
  ·obtain rfl:Except.ok (sz,1,4096)=r:=by rw[<-HR.out,eY,zQ rfl]
   have t0:=rk3.e0.c;have t1:=rk3.e1.c;have t2:=rk3.e2.c;have s0:=rk3.e0.f;have s1:=rk3.e1.f;have s2:=rk3.e2.f;go_wp2;exact yQ (v:=.agg #[.int .i64 (sz),.int .i64 (1),.int .i64 (4096)]) (by simp[results,results125,go_sem,t0,t1,t2]) rfl ⟨rfl,iT hbw3 _ _ _⟩
  ·obtain rfl:Except.error er=r:=by rw[<-HR.out,eY,qQ he]
   go_wp2;exact⟨rfl,rfl,hbw3⟩
theorem b8Z (lv:Value)(c:ByteArray)(lo hi:Int)(wv kv:Value)(x1 x2 x3 y1 y2 y3:Int)(hx:gZ (x1,x2,x3))(hy:gZ (y1,y2,y3))(w:World):fD w lv 10 c lo hi wv kv x1 x2 x3 y1 y2 y3 (if aV lo hi then .ok (x1,x2,spn lo hi) else .error 3):=by
 obtain⟨p1,p2,p3,p4,p5,p6⟩:=hx;obtain⟨q1,q2,q3,q4,q5,q6⟩:=hy;simp only at p1 p2 p3 p4 p5 p6 q1 q2 q3 q4 q5 q6;go_enter func125,ntmps125;cases h:aV lo hi with
 | true =>
  have k1:=fun W=>fT lo hi W h;rw[zQ rfl];clear h;go_wp2
  go_region_held3 (fun w'=>w'.cell? ⟨w.heap.size,2,none⟩=some (.int .i64 lo)/\w'.cell? ⟨w.heap.size,3,none⟩=some (.int .i64 hi)/\w'.cell? ⟨w.heap.size+1,0,none⟩=some (.int .i64 x1)/\w'.cell? ⟨w.heap.size+1,1,none⟩=some (.int .i64 x2)) (first|assumption|(simp[go_sem, *];done)) ((go_at_call 181;refine(k1 _).mono ?_;rintro x3 w3 ⟨rfl,hw3⟩;subst hw3))
  go_wp2;exact yQ (v:=.agg #[.int .i64 x1,.int .i64 x2,.int .i64 (spn lo hi)]) (by simp[results,results125,go_sem]) rfl ⟨rfl,(b4 _ _ _ _ _).drew⟩
 | false =>
  have k1:=fun W=>gT lo hi W h;rw[qQ (by simp)];clear h;go_wp2
  go_region_dies
  all_goals (go_at_call 181;refine(k1 _).mono ?_;rintro x3 w3 ⟨rfl,hw3⟩;subst hw3;exact⟨rfl,rfl,(b4 _ _ _ _ _).drew⟩)
theorem oO {k:Int}(h:¬ uX k<0):k=1\/k=2\/k=3\/k=4\/k=5\/k=6\/k=7\/k=8\/k=9\/k=10:=by
 unfold uX at h;split at h
 ·omega
 ·split at h
  ·omega
  ·split at h
   ·omega
   ·omega
theorem b8J (k:Int)(hk:¬ uX k<0)(lv:Value)(c:ByteArray)(lo hi:Int)(wv kv:Value)(x y:rX)(hx:gZ x)(hy:gZ y)(w:World)(B:Nat)(l:List vQ)(wh:List tX)(hB:B<=w.heap.size)(hp:dQ w B lv l)(hq:vZ w B wv wh)
  (r:Except Int rX) (hr:rec l k c lo hi wh x y=r):fD w lv k c lo hi wv kv x.1 x.2.1 x.2.2 y.1 y.2.1 y.2.2 r:=by
 obtain⟨x1,x2,x3⟩:=x;obtain⟨y1,y2,y3⟩:=y;rcases oO hk with rfl|rfl|rfl|rfl|rfl|rfl|rfl|rfl|rfl|rfl
 ·exact b7J lv c lo hi wv kv x1 x2 x3 y1 y2 y3 hx hy w B l wh hB hp hq r (by rw[<-hr];simp[rec])
 ·exact b8Q lv c lo hi wv kv x1 x2 x3 y1 y2 y3 hx hy w B l wh hB hp hq r hr
 ·exact b8X lv c lo hi wv kv x1 x2 x3 y1 y2 y3 hx hy w B l wh hB hp hq r hr
 ·subst hr;have:=b6J lv c lo hi wv kv x1 x2 x3 y1 y2 y3 hx hy w;simpa [rec] using this
 ·subst hr;have:=b7Q lv c lo hi wv kv x1 x2 x3 y1 y2 y3 hx hy w;simpa [rec] using this
 ·subst hr;have:=b7Z lv c lo hi wv kv x1 x2 x3 y1 y2 y3 hx hy w;simpa [rec] using this
 ·subst hr;have:=b6X lv c lo hi wv kv x1 x2 x3 y1 y2 y3 hx hy w;simpa [rec] using this
 ·subst hr;have:=b6Z lv c lo hi wv kv x1 x2 x3 y1 y2 y3 hx hy w;simpa [rec] using this
 ·subst hr;have:=b7X lv c lo hi wv kv x1 x2 x3 y1 y2 y3 hx hy w;simpa [rec] using this
 ·subst hr;have:=b8Z lv c lo hi wv kv x1 x2 x3 y1 y2 y3 hx hy w;simpa [rec] using this
def xU (ps:List (Nat × Int × Int)) (r:List Int):Bool:=ps.all fun e=>xL e.2.1 e.2.2 (r.getD e.1 0)
def jJ (lo hi v:Int):Int:=if v<lo then lo else if hi<v then hi else v
def qH (out:List Int) (p:Nat × Int):List Int:=out.set p.1 (out.getD p.1 0+p.2)
def gst (ps:List (Nat × Int × Int)) (f:List Int->Nat × Int) (out r:List Int):List Int:=if xU ps r then qH out (f r) else out
def gat (n:Nat) (ps:List (Nat × Int × Int)) (f:List Int->Nat × Int) (rs:List (List Int)):List Int:=rs.foldl (gst ps f) (List.replicate n 0)
def stp (k:Int) (at':Nat) (lo hi:Int) (r:List Int):Nat × Int:=if k=1 then (0,1) else if k=2 then (0,jJ lo hi (r.getD at' 0)) else ((r.getD at' 0).toNat,1)
def rA:List Int->Int
 | []=>0
 | a::l=>a+rA l
def fM (l:List vQ) (k:Int) (at':Nat):Nat:=if k=3 then (rV l at').toNat else 1
def ans (l:List vQ) (rs:List (List Int)):Qu->List Int
 | .none=>[]
 | .node k c lo hi wh _ x y =>
  if k=1\/k=2\/k=3 then gat (fM l k ((fnd l c).getD 0)) (wh.map (trp l)) (stp k ((fnd l c).getD 0) lo hi) rs
  else if k=4 then List.zipWith (· + ·) (ans l rs x) (ans l rs y)
  else if k=5 then List.zipWith (· - ·) (ans l rs x) (ans l rs y)
  else if k=6 then (ans l rs x).map (lo * ·)
  else if k=7 then ans l rs x++ans l rs y
  else if k=8 then [rA (ans l rs x)]
  else if k=9 then [(ans l rs x).getD lo.toNat 0]
  else (ans l rs x).map (jJ lo hi)
section
variable (l:List vQ) (rs:List (List Int)) (c:ByteArray) (lo hi:Int) (wh:List tX) (n:Nat) (x y:Qu)
theorem yL {k:Int}(h:k=1\/k=2\/k=3):ans l rs (.node k c lo hi wh n x y)=gat (fM l k ((fnd l c).getD 0)) (wh.map (trp l)) (stp k ((fnd l c).getD 0) lo hi) rs:=by
 simp only[ans];rw[zQ h]
theorem i8:ans l rs (.node 4 c lo hi wh n x y)=List.zipWith (· + ·) (ans l rs x) (ans l rs y):=by simp[ans]
theorem k8:ans l rs (.node 5 c lo hi wh n x y)=List.zipWith (· - ·) (ans l rs x) (ans l rs y):=by simp[ans]
theorem l8:ans l rs (.node 6 c lo hi wh n x y)=(ans l rs x).map (lo * ·):=by simp[ans]
theorem m8:ans l rs (.node 7 c lo hi wh n x y)=ans l rs x++ans l rs y:=by simp[ans]
theorem n8:ans l rs (.node 8 c lo hi wh n x y)=[rA (ans l rs x)]:=by simp[ans]
theorem o8:ans l rs (.node 9 c lo hi wh n x y)=[(ans l rs x).getD lo.toNat 0]:=by simp[ans]
theorem x9:ans l rs (.node 10 c lo hi wh n x y)=(ans l rs x).map (jJ lo hi):=by simp[ans]
end
theorem b9Q (ps:List (Nat × Int × Int))(f:List Int->Nat × Int)(out r:List Int):(gst ps f out r).length=out.length:=by
 unfold gst qH;split <;> simp
theorem b9X (ps:List (Nat × Int × Int))(f:List Int->Nat × Int)(rs:List (List Int))(out:List Int):(rs.foldl (gst ps f) out).length=out.length:=by
 induction rs generalizing out with
 | nil=>rfl
 | cons r rs ih=>rw[List.foldl_cons,ih,b9Q]
theorem wG (n:Nat)(ps:List (Nat × Int × Int))(f:List Int->Nat × Int)(rs:List (List Int)):(gat n ps f rs).length=n:=by
 rw[gat,b9X];simp
def fX (M:Int) (xs:List Int):Prop:=∀ z∈xs,-M<=z/\z<=M
theorem fX.mono {M N:Int}{xs:List Int}(h:fX M xs)(hN:M<=N):fX N xs:=fun z hz=>by have:=h z hz;omega
theorem fX.getD {M:Int}{xs:List Int}(h:fX M xs)(hM:0<=M)(i:Nat):-M<=xs.getD i 0/\xs.getD i 0<=M:=by
 rw[List.getD];cases hi:xs[i]? with
 | none=>simp;omega
 | some x=>exact h x (vX hi)
theorem b9Z {ps:List (Nat × Int × Int)}{f:List Int->Nat × Int}{out r:List Int}{M N:Int}(h:fX N out)(hN:0<=N)(hM:0<=M)(hf:-M<=(f r).2/\(f r).2<=M):fX (N+M) (gst ps f out r):=by
 unfold gst;split
 ·intro z hz
  unfold qH at hz;rcases mH hz with hz|rfl
  ·have:=h z hz;omega
  ·have:=h.getD hN (f r).1;omega
 ·exact h.mono (by omega)
theorem b9J {ps:List (Nat × Int × Int)}{f:List Int->Nat × Int}{M:Int}(hM:0<=M)(rs:List (List Int))(hf:∀ r∈rs,-M<=(f r).2/\(f r).2<=M):∀ (N:Int) (out:List Int),0<=N->fX N out->fX (N+rs.length*M) (rs.foldl (gst ps f) out):=by
 induction rs with
 | nil=>intro N out _ h;simpa using h
 | cons r rs ih =>
  intro N out hN h;rw[List.foldl_cons];have:=ih (fun r' h'=>hf r' (xM _ h')) (N+M) (gst ps f out r) (by omega) (b9Z h hN hM (hf r (zM ..)));refine this.mono ?_;rw[nD,gN,Int.add_mul];omega
theorem uL {n:Nat}{ps:List (Nat × Int × Int)}{f:List Int->Nat × Int}{M:Int}(hM:0<=M){rs:List (List Int)}(hf:∀ r∈rs,-M<=(f r).2/\(f r).2<=M)(hl:rs.length<=4096):fX (4096*M) (gat n ps f rs):=by
 have h0:fX 0 (List.replicate n (0:Int)):=fun z hz=>by have:=(List.mem_replicate.1 hz).2;omega
 refine(b9J hM rs hf 0 _ (oD _) h0).mono ?_;have:=yR (show((rs.length:Int))<=4096 by omega) hM;omega
theorem pO {lo hi v:Int}(h:aV lo hi=true):-spn lo hi<=jJ lo hi v/\jJ lo hi v<=spn lo hi:=by
 simp only[aV,oJ] at h;unfold jJ spn
 repeat' split
 all_goals omega
theorem caQ {M:Int}{xs:List Int}(h:fX M xs):-(xs.length*M)<=rA xs/\rA xs<=xs.length*M:=by
 induction xs with
 | nil=>simp[rA]
 | cons a xs ih =>
  have h1:=ih fun z hz=>h z (xM _ hz);have h2:=h a (zM ..);simp only[rA,nD];rw[gN,Int.add_mul];omega
theorem j9 {a b M N:Int}(h1:-M<=a/\a<=M)(h2:-N<=b/\b<=N):-(M*N)<=a*b/\a*b<=M*N:=by
 have hM:0<=M:=by omega
 have hN:0<=N:=by omega
 have ha:(a.natAbs:Int)<=M:=by omega
 have hb:(b.natAbs:Int)<=N:=by omega
 have h3:((a*b).natAbs:Int)<=M*N:=by
  rw[Int.natAbs_mul,Int.natCast_mul];exact fI ha hb (by omega) hM
 omega
theorem y9 {M N:Int}(f:Int->Int->Int)(hf:∀ a b,-M<=a/\a<=M->-N<=b/\b<=N->-(M+N)<=f a b/\f a b<=M+N){xs ys:List Int}(hx:fX M xs)(hy:fX N ys):fX (M+N) (List.zipWith f xs ys):=by
 induction xs generalizing ys with
 | nil=>intro z hz;simp at hz
 | cons a xs ih =>
  cases ys with
  | nil=>intro z hz;simp at hz
  | cons b ys =>
   intro z hz;rw[List.zipWith_cons_cons] at hz;rcases kX.1 hz with rfl|hz
   ·exact hf a b (hx a (zM ..)) (hy b (zM ..))
   ·exact ih (fun z hz=>hx z (xM _ hz)) (fun z hz=>hy z (xM _ hz)) z hz
theorem kT {l:List vQ}{lv:Nat}{k:Int}{c:ByteArray}{lo hi:Int}{wh:List tX}{n:Nat}{x y:Qu}{b:rX}(h:bnd l lv (.node k c lo hi wh n x y)=.ok b) :
  (n:Int)=uX k/\∃ bx b',iJ (1<=n) (bnd l (lv+1) x)=.ok bx/\iJ (2<=n) (bnd l (lv+1) y)=.ok b'/\rec l k c lo hi wh bx b' = .ok b/\tI b=true:=by
 simp only[bnd] at h;split at h
 ·cases h
 ·split at h
  ·cases h
  ·split at h
   ·rename_i hk
    split at h
    ·cases h
    ·rename_i bx hbx
     split at h
     ·cases h
     ·rename_i b' hby
      split at h
      ·cases h
      ·rename_i b0 hr
       obtain⟨rfl,hl⟩:=l6 h;exact⟨hk,bx,b',hbx,hby,hr,hl⟩
   ·cases h
theorem xH {e:Int}{b b':rX}(h:eY e b=.ok b'):e=0/\b=b':=by
 unfold eY at h;split at h
 ·cases h;exact⟨by assumption,rfl⟩
 ·cases h
theorem rO {l:List vQ}(hs:tU l){rs:List (List Int)}(hl:rs.length<=4096)(q:Qu):∀ (lv:Nat) (b:rX),bnd l lv q=.ok b->q≠.none->((ans l rs q).length:Int)=b.1/\fX b.2.2 (ans l rs q):=by
 induction q with
 | none=>intro lv b _ h;exact absurd rfl h
 | node k c lo hi wh n x y ihx ihy =>
  intro lv b h _;obtain⟨hk,⟨x1,x2,x3⟩,⟨y1,y2,y3⟩,hbx,hby,hr,hlim⟩:=kT h
  have kx:1<=n->x≠.none->((ans l rs x).length:Int)=x1/\fX x3 (ans l rs x):=fun hn hx=>by
   rw[iJ,zQ hn] at hbx;exact ihx _ _ hbx hx
  have ky:2<=n->y≠.none->((ans l rs y).length:Int)=y1/\fX y3 (ans l rs y):=fun hn hy=>by
   rw[iJ,zQ hn] at hby;exact ihy _ _ hby hy
  have zx:1<=n->x=.none->(x1,x2,x3)=((0,0,0):rX):=fun hn hx=>by
   rw[iJ,zQ hn,hx] at hbx;simp only[bnd] at hbx;cases hbx;rfl
  have zy:2<=n->y=.none->(y1,y2,y3)=((0,0,0):rX):=fun hn hy=>by
   rw[iJ,zQ hn,hy] at hby;simp only[bnd] at hby;cases hby;rfl
  have bx:1<=n->((ans l rs x).length:Int)=x1/\fX x3 (ans l rs x):=fun hn=>by
   by_cases hx:x=.none
   ·have:=zx hn hx;simp only[cQ] at this;obtain⟨rfl,rfl,rfl⟩:=this;rw[hx];exact⟨by simp[ans],fun z hz=>by simp[ans] at hz⟩
   ·exact kx hn hx
  have b_y:2<=n->((ans l rs y).length:Int)=y1/\fX y3 (ans l rs y):=fun hn=>by
   by_cases hy:y=.none
   ·have:=zy hn hy;simp only[cQ] at this;obtain⟨rfl,rfl,rfl⟩:=this;rw[hy];exact⟨by simp[ans],fun z hz=>by simp[ans] at hz⟩
   ·exact ky hn hy
  clear kx ky zx zy hbx hby ihx ihy;have hkc:¬ uX k<0:=by omega
  rcases oO hkc with rfl|rfl|rfl|rfl|rfl|rfl|rfl|rfl|rfl|rfl
  ·simp[rec] at hr
   obtain⟨_,rfl⟩:=xH hr;rw[yL _ _ _ _ _ _ _ _ _ (by simp)];exact⟨by rw[wG];simp[fM],uL (M:=1) (by decide) (fun r _=>by simp[stp]) hl⟩
  ·simp[rec] at hr
   split at hr
   ·split at hr
    ·rename_i hw
     obtain⟨_,rfl⟩:=xH hr;rw[yL _ _ _ _ _ _ _ _ _ (by simp)];exact⟨by rw[wG];simp[fM],uL (jI hw).1 (fun r _=>by simpa [stp] using pO hw) hl⟩
    ·cases hr
   ·cases hr
  ·simp[rec] at hr
   split at hr
   ·rename_i i hf
    obtain⟨_,rfl⟩:=xH hr;rw[yL _ _ _ _ _ _ _ _ _ (by simp)];have:=mO hs hf;exact⟨by rw[wG,hf];simp[fM];omega,uL (M:=1) (by decide) (fun r _=>by simp[stp]) hl⟩
   ·cases hr
  ·simp[rec] at hr
   have hn:n=2:=by simp[uX] at hk;omega
   obtain⟨e1,e2⟩:=bx (by omega);obtain⟨e3,e4⟩:=b_y (by omega);split at hr
   ·cases hr
    rw[i8];exact⟨by simp;omega,y9 _ (fun a b h1 h2=>by omega) e2 e4⟩
   ·cases hr
  ·simp[rec] at hr
   have hn:n=2:=by simp[uX] at hk;omega
   obtain⟨e1,e2⟩:=bx (by omega);obtain⟨e3,e4⟩:=b_y (by omega);split at hr
   ·cases hr
    rw[k8];exact⟨by simp;omega,y9 _ (fun a b h1 h2=>by omega) e2 e4⟩
   ·cases hr
  ·simp[rec] at hr
   have hn:n=1:=by simp[uX] at hk;omega
   obtain⟨e1,e2⟩:=bx (by omega);split at hr
   ·rename_i hw
    cases hr;rw[l8];refine⟨by simpa using e1,fun z hz=>?_⟩;obtain⟨a,ha,rfl⟩:=yJ.1 hz;refine j9 ?_ (e2 a ha);simp only[aV,oJ] at hw;unfold spn;split <;> omega
   ·cases hr
  ·simp[rec] at hr
   have hn:n=2:=by simp[uX] at hk;omega
   obtain⟨e1,e2⟩:=bx (by omega);obtain⟨e3,e4⟩:=b_y (by omega);cases hr;rw[m8];refine⟨by simp;omega,fun z hz=>?_⟩
   show -(mx x3 y3)<=z/\z<=mx x3 y3
   unfold mx;rcases uY.1 hz with hz|hz
   ·have:=e2 z hz;split <;> omega
   ·have:=e4 z hz;split <;> omega
  ·simp[rec] at hr
   have hn:n=1:=by simp[uX] at hk;omega
   obtain⟨e1,e2⟩:=bx (by omega);cases hr;rw[n8];refine⟨by simp,fun z hz=>?_⟩;obtain rfl:=eN.1 hz;have:=caQ e2;rw[e1] at this;exact this
  ·simp[rec] at hr
   have hn:n=1:=by simp[uX] at hk;omega
   obtain⟨e1,e2⟩:=bx (by omega);split at hr
   ·rename_i hlo
    cases hr;rw[o8];refine⟨by simp,fun z hz=>?_⟩;obtain rfl:=eN.1 hz;have hlt:lo.toNat<(ans l rs x).length:=by omega
    rw[List.getD,fZ hlt];exact e2 _ (List.getElem_mem hlt)
   ·cases hr
  ·simp[rec] at hr
   have hn:n=1:=by simp[uX] at hk;omega
   obtain⟨e1,e2⟩:=bx (by omega);split at hr
   ·rename_i hw
    cases hr;rw[x9];refine⟨by simpa using e1,fun z hz=>?_⟩;obtain⟨a,ha,rfl⟩:=yJ.1 hz;exact pO hw
   ·cases hr
