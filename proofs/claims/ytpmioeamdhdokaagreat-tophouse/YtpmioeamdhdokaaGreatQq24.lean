import Derived.Test.YtpmioeamdhdokaaGreatQq23
import Derived.Deep.RegionHeld3
import Derived.BigRegion
import Derived.Laws.MakeOwn
import Derived.Laws.OwnMore
import Derived.Laws.EntriesVeiled
open Go.Proofs.Tryz
set_option linter.unusedSimpArgs false
set_option maxHeartbeats 16000000
set_option maxRecDepth 100000
namespace Go.Proofs.YtpmioeamdhdokaaGreat
variable {A B B' N b base c g i j n size:Nat} {w w' wr:World} {V v:Value} {a:Option Addr} {xs:List Value} {cur:Array Value} {e:Nat × Int × Int} {t:TypeId} {es:List (Value × Nat × Int × Int)}
namespace K
open Go.RowKit K.Ds
abbrev Rw:=Value × List Int
def zX (w:World) (B:Nat) (v:Value) (ts:List Rw):Prop :=
 ∃ a c,v=.slice a ts.length c/\ts.length<=c/\ts.length<=9223372036854775807/\(∀ t∈ts,jQ w B B t.1 t.2) /\
  (ts≠[]->∃ b o,a=some ⟨b,o,none⟩/\b<B/\∀ i t,ts[i]? = some t->w.cell? ⟨b,o+i,none⟩=some t.1)
def rr (ts:List Rw):List (List Int):=ts.map (·.2)
theorem mH (ts:List Rw):(rr ts).length=ts.length:=by simp[rr]
theorem fO {ts:List Rw}{t:Rw}(h:ts[i]? = some t):(rr ts)[i]? = some t.2:=by simp[rr,h]
theorem zX.keep {ts:List Rw}(h:zX w B v ts)(hb:Below B w w'):zX w' B v ts:=by
 obtain⟨a,c,hv,hc,hl,hi,hx⟩:=h;refine⟨a,c,hv,hc,hl,fun t ht=>(hi t ht).keep hb,fun hne=>?_⟩;obtain⟨b,o,ha,hB,hcell⟩:=hx hne;exact⟨b,o,ha,hB,fun i t ht=>(hb.cell (p:=⟨b,o+i,none⟩) hB).trans (hcell i t ht)⟩
theorem zX.at {ts:List Rw}(h:zX w B v ts)(hB:B<=w.heap.size)(hb:Below w.heap.size w w'):zX w' B v ts:=h.keep (hb.mono hB)
theorem zX.mono {ts:List Rw}(h:zX w B v ts)(hB:B<=B'):zX w B' v ts:=by
 obtain⟨a,c,hv,hc,hl,hi,hx⟩:=h;refine⟨a,c,hv,hc,hl,fun t ht=>(hi t ht).mono hB (.inr hB),fun hne=>?_⟩;obtain⟨b,o,ha,hb,hcell⟩:=hx hne;exact⟨b,o,ha,by omega,hcell⟩
theorem zX.slice {ts:List Rw}(h:zX w B v ts):∃ a c,v=.slice a ts.length c/\ts.length<=c/\ts.length<=9223372036854775807:=by
 obtain⟨a,c,hv,hc,hl,_⟩:=h;exact⟨a,c,hv,hc,hl⟩
theorem zX.get {ts:List Rw}(h:zX w B (.slice a n c) ts)(hB:B<=w.heap.size)(hb:Below w.heap.size w wr)(hi:i<ts.length) :
  ∃ b o sa sc xs,a=some ⟨b,o,none⟩/\b<B/\ts[i]? = some (.slice sa xs.length sc,xs)/\wr.cell? ⟨b,o+i,none⟩=some (.slice sa xs.length sc)/\jQ wr B B (.slice sa xs.length sc) xs:=by
 obtain⟨a',c',hv,_,_,hin,hx⟩:=h.at hB hb;simp only[iZ] at hv;obtain⟨rfl,rfl,rfl⟩:=hv;obtain⟨b,o,rfl,hbB,hcell⟩:=hx (ne_of_lt hi);obtain⟨⟨tv,xs⟩,ht⟩:=cX hi;have hI:=hin _ (rQ ht);obtain⟨sa,sc,e,_⟩:=hI.slice;simp only at e;subst e;exact⟨b,o,sa,sc,xs,rfl,hbB,ht,hcell i _ ht,hI⟩
theorem dL (B:Nat)(cv rv:Value)(l:List yQ)(ts:List Rw)(w:World)(hB:B<=w.heap.size)(hp:tQ w B cv l)(hq:zX w B rv ts)(er:Int)(hr:kJ l (rr ts)=er) :
  Calls prog 50 #[.agg #[cv,rv]] w fun e w'=>e=.returned (.int .i64 er)/\Below w.heap.size w w':=by
 have HP:=qQ hp;have HQ:=qQ hq;have HR:=qQ hr;obtain⟨a,c,rfl,hc,hl⟩:=hp.slice;obtain⟨a2,c2,rfl,hc2,hl2⟩:=hq.slice;clear hr;obtain⟨ec,hec⟩:∃ ec,Hid (mY l=ec):=⟨_,rfl⟩;have kc:=qB B _ l (w.alloc (.cells #[.slice a l.length c,.slice a2 ts.length c2] 25)) (by simp;omega) (HP.out.at hB (ba _ _)) ec hec.out;have d0:(w.alloc (.cells #[.slice a l.length c,.slice a2 ts.length c2] 25)).cell? ⟨w.heap.size,0,none⟩=some (.slice a l.length c):=nc _ _ 0 _ rfl rfl;have d1:(w.alloc (.cells #[.slice a l.length c,.slice a2 ts.length c2] 25)).cell? ⟨w.heap.size,1,none⟩=some (.slice a2 ts.length c2):=nc _ _ 1 _ rfl rfl;go_enter func50,ntmps50;go_wp2_with fail;refine kc.mono ?_;rintro e w1 ⟨rfl,hb1⟩;have hbw:Below w.heap.size w w1:=bt (ba _ _) hb1;have f0:w1.cell? ⟨w.heap.size,0,none⟩=some (.slice a l.length c):=(hb1.cell (p:=⟨w.heap.size,0,none⟩) (by simp)).trans d0;have f1:w1.cell? ⟨w.heap.size,1,none⟩=some (.slice a2 ts.length c2):=(hb1.cell (p:=⟨w.heap.size,1,none⟩) (by simp)).trans d1;have hz1:w.heap.size<w1.heap.size:=by have:=hb1.size;simp at this;omega
 clear kc d0 d1 hb1;by_cases he0:ec=0
 ·subst he0
  have HE:Hid (kJ l (rr ts)=if 4096<ts.length then 4 else gD l (rr ts)):=by show _=_;rw[kJ,zQ hec.out,mH]
  by_cases h4:4096<ts.length
  ·obtain rfl:4=er:=by rw[<-HR.out,HE.out,zQ h4]
   go_wp2;go_ret;exact⟨rfl,hbw⟩
  ·go_wp2
   go_loopw [20] (fun s wr=>∃ (i:Nat),s=.int .i64 (i:Int)/\i<=ts.length/\Hid (gD l ((rr ts).drop i)=er)/\wr=w1) (fun s _=>ts.length - (intOf s).toNat)
   case atStart=>exact⟨0,rfl,kQ _,by show _=_;rw[bP,<-HR.out,HE.out,xQ h4],rfl⟩
   case round =>
    obtain⟨i,rfl,hi,HI,rfl⟩:=hrel;by_cases h1:i<ts.length
    ·obtain⟨b,o,sa,sc,xs,rfl,hb,hg,e1,hI⟩:=HQ.out.get hB hbw h1
     have HII:=qQ hI;have ST:=qQ (HI.out.symm.trans (a0Z (fO hg)));clear hg hI HI;obtain⟨ew,hew⟩:∃ ew,Hid (uA l xs=ew):=⟨_,rfl⟩;have hBr:B<=wr.heap.size:=by omega
     have kc:=c9X B B B _ _ l xs wr hBr (HP.out.at hB hbw) hBr HII.out ew hew.out;by_cases hw0:ew=0
     ·subst hw0
      have HI2:Hid (gD l ((rr ts).drop (i+1))=er):=by show _=_;rw[ST.out,zQ hew.out]
      go_wp2_with fail;refine kc.mono ?_;rintro e w2 ⟨rfl,rfl⟩;go_wp2
      go_roundw
      case rel=>exact⟨i+1,by go_num,h1,HI2,trivial⟩
      case measure=>simp[intOf];omega
     ·have hne:(ew != 0)=true:=by simpa using hw0
      obtain rfl:ew=er:=by rw[ST.out,hew.out,xQ hw0]
      go_wp2_with fail;refine kc.mono ?_;rintro e w2 ⟨rfl,rfl⟩;go_wp2;go_ret;exact⟨rfl,hbw⟩
    ·obtain rfl:0=er:=by have:=HI.out;rw[fY (by rw[mH];omega)] at this;exact this
     go_wp2;go_ret;exact⟨rfl,hbw⟩
 ·have hne:(ec != 0)=true:=by simpa using he0
  obtain rfl:ec=er:=by rw[<-HR.out,kJ,hec.out,xQ he0]
  go_wp2;go_ret;exact⟨rfl,hbw⟩
theorem daQ (B:Nat)(cv rv:Value)(l:List yQ)(ts:List Rw)(w:World)(hB:B<=w.heap.size)(hp:tQ w B cv l)(hq:zX w B rv ts)(er:Int)(hr:kJ l (rr ts)=er) :
  Calls prog 13 #[.agg #[cv,rv]] w fun e w'=>e=.returned (.int .i64 er)/\Below w.heap.size w w':=by
 have HP:=qQ hp;have HQ:=qQ hq;have HR:=qQ hr;obtain⟨a,c,rfl,hc,hl⟩:=hp.slice;obtain⟨a2,c2,rfl,hc2,hl2⟩:=hq.slice;clear hr;obtain⟨ec,hec⟩:∃ ec,Hid (mY l=ec):=⟨_,rfl⟩;have kc:=c9J B _ l (w.alloc (.cells #[.slice a l.length c,.slice a2 ts.length c2] 25)) (by simp;omega) (HP.out.at hB (ba _ _)) ec hec.out;have d0:(w.alloc (.cells #[.slice a l.length c,.slice a2 ts.length c2] 25)).cell? ⟨w.heap.size,0,none⟩=some (.slice a l.length c):=nc _ _ 0 _ rfl rfl;have d1:(w.alloc (.cells #[.slice a l.length c,.slice a2 ts.length c2] 25)).cell? ⟨w.heap.size,1,none⟩=some (.slice a2 ts.length c2):=nc _ _ 1 _ rfl rfl;go_enter func13,ntmps13;go_wp2_with fail;refine kc.mono ?_;rintro e w1 ⟨rfl,hb1⟩;have hbw:Below w.heap.size w w1:=bt (ba _ _) hb1;have f0:w1.cell? ⟨w.heap.size,0,none⟩=some (.slice a l.length c):=(hb1.cell (p:=⟨w.heap.size,0,none⟩) (by simp)).trans d0;have f1:w1.cell? ⟨w.heap.size,1,none⟩=some (.slice a2 ts.length c2):=(hb1.cell (p:=⟨w.heap.size,1,none⟩) (by simp)).trans d1;have hz1:w.heap.size<w1.heap.size:=by have:=hb1.size;simp at this;omega
 clear kc d0 d1 hb1;by_cases he0:ec=0
 ·subst he0
  have HE:Hid (kJ l (rr ts)=if 4096<ts.length then 4 else gD l (rr ts)):=by show _=_;rw[kJ,zQ hec.out,mH]
  by_cases h4:4096<ts.length
  ·obtain rfl:4=er:=by rw[<-HR.out,HE.out,zQ h4]
   go_wp2;go_ret;exact⟨rfl,hbw⟩
  ·go_wp2
   go_loopw [20] (fun s wr=>∃ (i:Nat),s=.int .i64 (i:Int)/\i<=ts.length/\Hid (gD l ((rr ts).drop i)=er)/\wr=w1) (fun s _=>ts.length - (intOf s).toNat)
   case atStart=>exact⟨0,rfl,kQ _,by show _=_;rw[bP,<-HR.out,HE.out,xQ h4],rfl⟩
   case round =>
    obtain⟨i,rfl,hi,HI,rfl⟩:=hrel;by_cases h1:i<ts.length
    ·obtain⟨b,o,sa,sc,xs,rfl,hb,hg,e1,hI⟩:=HQ.out.get hB hbw h1
     have HII:=qQ hI;have ST:=qQ (HI.out.symm.trans (a0Z (fO hg)));clear hg hI HI;obtain⟨ew,hew⟩:∃ ew,Hid (uA l xs=ew):=⟨_,rfl⟩;have hBr:B<=wr.heap.size:=by omega
     have kc:=c9Z B B B _ _ l xs wr hBr (HP.out.at hB hbw) hBr HII.out ew hew.out;by_cases hw0:ew=0
     ·subst hw0
      have HI2:Hid (gD l ((rr ts).drop (i+1))=er):=by show _=_;rw[ST.out,zQ hew.out]
      go_wp2_with fail;refine kc.mono ?_;rintro e w2 ⟨rfl,rfl⟩;go_wp2
      go_roundw
      case rel=>exact⟨i+1,by go_num,h1,HI2,trivial⟩
      case measure=>simp[intOf];omega
     ·have hne:(ew != 0)=true:=by simpa using hw0
      obtain rfl:ew=er:=by rw[ST.out,hew.out,xQ hw0]
      go_wp2_with fail;refine kc.mono ?_;rintro e w2 ⟨rfl,rfl⟩;go_wp2;go_ret;exact⟨rfl,hbw⟩
    ·obtain rfl:0=er:=by have:=HI.out;rw[fY (by rw[mH];omega)] at this;exact this
     go_wp2;go_ret;exact⟨rfl,hbw⟩
 ·have hne:(ec != 0)=true:=by simpa using he0
  obtain rfl:ec=er:=by rw[<-HR.out,kJ,hec.out,xQ he0]
  go_wp2;go_ret;exact⟨rfl,hbw⟩
theorem qO:(prog.info? 3).map (fun i=>(i.zero,i.size,i.bytes))=some (some (.int .i64 0),1,8):=by kernel_rfl
structure RowI (w:World) (g:Nat) (xs:List Int):Prop where
 cells:∀ i x,xs[i]? = some x->w.cell? ⟨g,i,none⟩=some (.int .i64 x)
 thaw:∀ i,i<xs.length->w.frozen? ⟨g,i,none⟩=false
 lt:g<w.heap.size
theorem RowI.keep {xs:List Int}(h:RowI w g xs)(hb:Below N w w')(hg:g<N):RowI w' g xs :=
 ⟨fun i x hi=>(hb.cell (p:=⟨g,i,none⟩) hg).trans (h.cells i x hi),fun i hi=>(hb.frozen (p:=⟨g,i,none⟩) hg).trans (h.thaw i hi),uX h.lt hb.size⟩
theorem RowI.set {xs:List Int}(h:RowI w g xs)(i:Nat)(k:Int):RowI (w.setCell ⟨g,i,none⟩ (.int .i64 k)) g (xs.set i k):=by
 refine⟨fun j x hj=>?_,fun j hj=>by rw[qZ];exact h.thaw j (by simpa using hj),by simpa using h.lt⟩;by_cases e:i=j
 ·subst e
  have hi:i<xs.length:=by have:=(cQ.1 hj).1;simpa using this
  rw[fG hi] at hj;obtain rfl:k=x:=by simpa using hj
  obtain⟨y,hy⟩:=cX hi;exact wZ (h.cells i y hy)
 ·rw[xF e] at hj
  rw[gQ (fun h=>e (congrArg Addr.off h))];exact h.cells j x hj
theorem RowI.made (w:World)(n:Nat):RowI (w.alloc (.cells (madeCells #[.int .i64 0] n) 3)) w.heap.size (List.replicate n 0):=by
 refine⟨fun i x hi=>?_,fun i _=>lE _ _ _ _ rfl,by simp⟩;have h1:i<n:=by have:=(cQ.1 hi).1;simpa using this
 obtain rfl:x=0:=by
  have:=(cQ.1 hi).2;simp at this;exact this.symm
 rw[iN _ _ _ _ rfl];simp[madeCells,h1,Nat.mod_one]
theorem vB (n:Nat)(hn:n<=1073741824)(u:World):(Instr.makeSlice 35 (.int .i64 (n:Int)) (.int .i64 (n:Int))).run prog u =
  .ok (.slice (some ⟨u.heap.size,0,none⟩) n n) (u.alloc (.cells (madeCells #[.int .i64 0] n) 3)):=by
 obtain⟨i0,hi,hz0,hz1,hz2⟩:=rJ qO;have h:=run_make (P:=prog) u 35 3 i0 (.int .i64 0) underlying35 hi hz0 .i64 .i64 (n:Int) (n:Int) (by omega) (zG _) (by rw[hz2];omega) (by omega);rw[vK] at h;simpa [hz1,Value.cells] using h
theorem qR {e:TypeId}(h:w.heap[g]? = some (.cells cur e (0,0))):w.frozen? ⟨g,j,none⟩=false:=by
 simp[World.frozen?,h]
theorem cL {e:TypeId}(h:w.ownsRow base e size v n xs)(hb:Below w.heap.size w w'):w'.ownsRow base e size v n xs:=by
 obtain⟨h1,h2⟩:=h;refine⟨h1,?_⟩;rcases h2 with h2|⟨g,cap,cur,hv,hg,hcur,h3⟩
 ·exact .inl h2
 ·exact .inr ⟨g,cap,cur,hv,hg,by rw[hb.block g (zJ.1 hcur).1];exact hcur,h3⟩
theorem bF {e:TypeId}(h:w.ownsRow base e size v n xs):∃ a c,v=.slice a n c:=by
 obtain⟨_,⟨rfl,rfl⟩|⟨g,cap,cur,rfl,_⟩⟩:=h
 ·exact⟨_,_,rfl⟩
 ·exact⟨_,_,rfl⟩
theorem daX {e:TypeId}(h:w.ownsRow base e size v n xs)(hne:v≠.slice none 0 0):∃ g c,v=.slice (some ⟨g,0,none⟩) n c/\base<=g/\g<w.heap.size:=by
 obtain⟨_,⟨rfl,rfl⟩|⟨g,cap,cur,rfl,hb,hcur,_⟩⟩:=h
 ·exact absurd rfl hne
 ·exact⟨g,cap,rfl,hb,(zJ.1 hcur).1⟩
theorem a4Z (w:World)(B:Nat):zX w B (.slice none 0 0) []:=⟨none,0,rfl,vQ _,by simp,by simp,fun h=>absurd rfl h⟩
theorem Boxed.at (h:Boxed w b t v)(hb:Below w.heap.size w w'):Boxed w' b t v:=(hb.block b h.lt).trans h
def gF (w:World) (V:Value) (e:Nat × Int × Int):Prop :=
 ∃ h i p,V=.func (.func 254) #[] #[.pointer (some ⟨h,0,none⟩),.pointer (some ⟨i,0,none⟩)]/\Boxed w h 277 (uG e.2.1 p)/\Boxed w i 3 (.int .i64 (e.1:Int))/\Boxed w p 3 (.int .i64 e.2.2)
theorem gF.at (h:gF w V e)(hb:Below w.heap.size w w'):gF w' V e:=by
 obtain⟨h,i,p,e,h1,h2,h3⟩:=h;exact⟨h,i,p,e,Boxed.at h1 hb,Boxed.at h2 hb,Boxed.at h3 hb⟩
def kK (w:World) (lo:Nat) (v:Value) (es:List (Value × Nat × Int × Int)):Prop :=
 w.ownsRow lo 72 1 v es.length (es.map (·.1))/\∀ e∈es,gF w e.1 e.2
theorem kK.at {lo:Nat}(h:kK w lo v es)(hb:Below w.heap.size w w'):kK w' lo v es :=
 ⟨cL h.1 hb,fun e he=>(h.2 e he).at hb⟩
theorem gF.grow {lo:Nat}(h:gF w V e)(hr:w.ownsRow lo 72 1 v n xs)(hg:w.grownBy w' v.ownBlock):gF w' V e:=by
 obtain⟨h,i,p,e,h1,h2,h3⟩:=h;exact⟨h,i,p,e,h1.kept hg (h1.not_row (by decide) hr),h2.kept hg (h2.not_row (by decide) hr),h3.kept hg (h3.not_row (by decide) hr)⟩
theorem gF.setb {u:Value}(h:gF w V e)(hA:Boxed w A 321 u):gF (w.setCell ⟨A,0,none⟩ v) V e:=by
 have ne:∀ {b:Nat} {t:TypeId} {x:Value},Boxed w b t x->t≠321->some b≠some A:=by
  intro b t x hb ht e;simp only[xX] at e;subst e;have:=(show w.heap[b]? = _ from hb).symm.trans (show w.heap[b]? = _ from hA);simp at this;exact ht this.2
 obtain⟨h,i,p,e,h1,h2,h3⟩:=h;exact⟨h,i,p,e,h1.kept (mE _ _ _) (ne h1 (by decide)),h2.kept (mE _ _ _) (ne h2 (by decide)),h3.kept (mE _ _ _) (ne h3 (by decide))⟩
def trp (l:List yQ) (t:aZ):Nat × Int × Int:=((fnd l t.1).getD 0,t.2.1,t.2.2)
def daZ (w:World) (ps:List (Nat × Int × Int)) (er:Int) (e:Ending) (w':World):Prop :=
 Below w.heap.size w w'/\((er=0/\∃ A sv es,w.heap.size<=A/\e=.returned (.func (.func 255) #[] #[.pointer (some ⟨A,0,none⟩)])/\Boxed w' A 321 sv/\kK w' w.heap.size sv es/\es.map (·.2)=ps)\/(er≠0/\e=.panicked (chn er)))
theorem daJ:(prog.info? 72).map (fun i=>(i.zero,i.size,i.bytes))=some (some .nilFunc,1,8):=by kernel_rfl
theorem gO (B:Nat)(lv v:Value)(l:List yQ)(wh:List aZ)(w:World)(hB:B<=w.heap.size)(hp:tQ w B lv l)(hq:qJ w B v wh)(er:Int)(hr:wY l wh=er) :
  Calls prog 224 #[lv,v] w fun e w'=>daZ w (wh.map (trp l)) er e w':=by
 have HP:=qQ hp;have HQ:=qQ hq;have HR:=qQ hr;obtain⟨a,c,rfl,hc,hl⟩:=hq.slice;obtain⟨a',c',rfl,hc',hl'⟩:=hp.slice;obtain⟨i0,hi0,hz0,hz1,hz2⟩:=rJ daJ;have hmf:=hmf;clear hr;go_enter func224,ntmps224;by_cases h64:64<wh.length
 ·obtain rfl:4=er:=by rw[<-HR.out,wY,zQ h64]
  have hle:¬ (wh.length:Int)<=64:=by omega
  go_wp2_with fail;refine(oY 4 w).mono ?_;rintro e w2 ⟨rfl,rfl⟩;go_wp2;exact⟨rfl,aQ _ _,.inr ⟨by decide,rfl⟩⟩
 have HR2:Hid (lH l wh=er):=by have:=HR.out;rwa [wY,xQ h64] at this
 have hle:(wh.length:Int)<=64:=by omega
 go_wp2_with fail;refine(eF 4 w).mono ?_;rintro e w2 ⟨rfl,rfl⟩;go_wp2
 go_loopw [16] (fun s wr=>∃ (i:Nat),s=.int .i64 (i:Int)/\i<=wh.length/\Hid (lH l (wh.drop i)=er)/\Below w2.heap.size w2 wr /\
  ∃ sv es,Boxed wr w2.heap.size 321 sv/\kK wr w2.heap.size sv es/\es.map (·.2)=(wh.take i).map (trp l)) (fun s _=>wh.length - (intOf s).toNat)
 case atStart=>exact⟨0,rfl,kQ _,by simpa [Hid] using HR2.out,ba _ _,.slice none 0 0,[],tN _ _ _,⟨⟨rfl,.inl ⟨rfl,rfl⟩⟩,fun e he=>by cases he⟩,by simp⟩
 case round =>
  obtain⟨i,rfl,hi,HI,hbl,sv,es,hbx,hts,hes⟩:=hrel;have HBX:=qQ hbx;have HT:=qQ hts;have HES:=qQ hes;have hsz:=hbl.size;clear hbx hes;obtain⟨sa,sc,rfl⟩:=bF hts.1;clear hts;by_cases h1:i<wh.length
  ·obtain⟨b,o,nm,d,z,rfl,hb,hgt,c1,c2,c3,hn⟩:=HQ.out.get hB hbl h1
   have HG:=qQ hgt;have HST:Hid (lH l (wh.drop i)=if (fnd l nm).isSome then (if fU d then lH l (wh.drop (i+1)) else 1) else 7):=c5Z hgt;have kcol:tQ (wr.alloc (.cells #[.string nm,.int .i64 d,.int .i64 z] 287)) B (.slice a' l.length c') l:=(HP.out.at hB hbl).at (by omega) (ba _ _);clear hgt;cases hf:fnd l nm with
   | none =>
    obtain rfl:7=er:=by rw[<-HI.out,HST.out,hf];rfl
    have k1:=jB B _ l nm _ (by simp;omega) kcol hf;clear hf kcol;go_wp2_with fail;refine k1.mono ?_;rintro e w3 ⟨rfl,hb3⟩;go_wp2;exact⟨rfl,bt (bal hbl _) hb3,.inr ⟨by decide,rfl⟩⟩
   | some p =>
    have k1:=cO B _ l nm _ (by simp;omega) kcol p hf;have HF:=qQ hf;clear hf kcol;go_wp2_with fail;refine k1.mono ?_;rintro e w3 ⟨rfl,hb3⟩;clear k1;have e0:Cl w3 wr.heap.size 0 (.string nm):=(Cl.new (w:=wr) #[.string nm,.int .i64 d,.int .i64 z] 287 0 _ rfl rfl).at hb3;have e1:Cl w3 wr.heap.size 1 (.int .i64 d):=(Cl.new (w:=wr) #[.string nm,.int .i64 d,.int .i64 z] 287 1 _ rfl rfl).at hb3;have e2:Cl w3 wr.heap.size 2 (.int .i64 z):=(Cl.new (w:=wr) #[.string nm,.int .i64 d,.int .i64 z] 287 2 _ rfl rfl).at hb3;have hb3':Below wr.heap.size wr w3:=bt (ba _ _) hb3;have t1:=(e1.at (ba w3 (.cells #[.int .i64 (p:Int)] 3))).c;have t2:=(e2.at (ba w3 (.cells #[.int .i64 (p:Int)] 3))).c;cases hd:fU d with
    | false =>
     obtain rfl:1=er:=by rw[<-HI.out,HST.out,HF.out,hd];rfl
     have k2:=c9Q d z (w3.alloc (.cells #[.int .i64 (p:Int)] 3)) hd;clear hd;go_wp2_with fail;refine k2.mono ?_;rintro e w4 ⟨rfl,hb4⟩;go_wp2;exact⟨rfl,bt (bt hbl (bt hb3' (ba _ _))) hb4,.inr ⟨by decide,rfl⟩⟩
    | true =>
     have k2:=c8J d z (w3.alloc (.cells #[.int .i64 (p:Int)] 3)) hd;have HI2:Hid (lH l (wh.drop (i+1))=er):=by have:=HI.out;rwa [HST.out,HF.out,hd] at this
     clear hd;go_wp2_with fail;refine k2.mono ?_;rintro e w4 ⟨rfl,hw4⟩;have es1:(w3.alloc (.cells #[.int .i64 (p:Int)] 3)).heap.size=w3.heap.size+1:=by simp
     rw[es1];have hs4:Hid (w4.heap.size=w3.heap.size+2):=by show _=_;rw[hw4];simp
     have X1:Boxed w4 w3.heap.size 3 (.int .i64 (p:Int)):=by rw[hw4];exact(tN w3 3 _).alloc _
     have X2:Boxed w4 (w3.heap.size+1) 3 (.int .i64 z):=by rw[hw4];have:=tN (w3.alloc (.cells #[.int .i64 (p:Int)] 3)) 3 (.int .i64 z);rwa [es1] at this
     have hb34:Below w3.heap.size w3 w4:=by rw[hw4];exact bal (ba _ _) _
     have hb4:Below wr.heap.size wr w4:=bt hb3' hb34;clear hw4 k2 t1 t2 e0 e1 e2 hb3 hb34 es1;obtain⟨W5,hW5⟩:∃ W5,w4.alloc (.cells #[uG d (w3.heap.size+1)] 277)=W5:=⟨_,rfl⟩;have hb5:Below wr.heap.size wr W5:=by rw[<-hW5];exact bal hb4 _
     have hs5:Hid (W5.heap.size=w4.heap.size+1):=by show _=_;rw[<-hW5];simp
     have Y1:=Boxed.at X1 (by rw[<-hW5];exact ba _ _:Below w4.heap.size w4 W5);have Y2:=Boxed.at X2 (by rw[<-hW5];exact ba _ _:Below w4.heap.size w4 W5);have Y3:Boxed W5 w4.heap.size 277 (uG d (w3.heap.size+1)):=by rw[<-hW5];exact tN w4 277 _
     have YA:Boxed W5 w2.heap.size 321 (.slice sa es.length sc):=Boxed.at HBX.out hb5;have YT:kK W5 w2.heap.size (.slice sa es.length sc) es:=HT.out.at hb5;have tA:=YA.cell;have HY:Hid (Boxed W5 w3.heap.size 3 (.int .i64 (p:Int))/\Boxed W5 (w3.heap.size+1) 3 (.int .i64 z)/\Boxed W5 w4.heap.size 277 (uG d (w3.heap.size+1))/\Boxed W5 w2.heap.size 321 (.slice sa es.length sc)/\kK W5 w2.heap.size (.slice sa es.length sc) es):=⟨Y1,Y2,Y3,YA,YT⟩;clear Y1 Y2 Y3 X1 X2 YA YT;have HW5:=qQ hW5;have tA2:(w4.alloc (.cells #[uG d (w3.heap.size+1)] 277)).cell? ⟨w2.heap.size,0,none⟩=some (.slice sa es.length sc):=by rw[hW5];exact tA
     have HO:Hid (((w4.alloc (.cells #[uG d (w3.heap.size+1)] 277)).alloc (.cells #[.func (.func 254) #[] #[.pointer (some ⟨w4.heap.size,0,none⟩),.pointer (some ⟨w3.heap.size,0,none⟩)]] 72)).ownsRow w2.heap.size 72 1 (.slice sa es.length sc) es.length (es.map (·.1))):=by
      show World.ownsRow _ _ _ _ _ _ _;rw[hW5];exact cL HY.out.2.2.2.2.1 (ba _ _)
     have hlen:Hid (es.length<=64):=by have:=congrArg List.length HES.out;simp at this;show _<=_;omega
     have hsA:Hid (w2.heap.size<=w4.heap.size):=by show _<=_;exact bQ hsz hb4.size
     clear hW5 tA;simp only[uG] at tA2 HO ⊢;go_wp2_with (at_builtin;refine xL _ rfl _ _ 321 rfl w2.heap.size 72 i0 .nilFunc 1 8 underlying321 hi0 hz0 hz1 hz2 rfl (by decide) _ _ _ rfl HO.out ⟨w4.heap.size+1,0,none⟩ 1 1 [.func (.func 254) #[] #[.pointer (some ⟨w4.heap.size,0,none⟩),.pointer (some ⟨w3.heap.size,0,none⟩)]] rfl ?q1 ?q2 ?q3 ?q4 ?q5 ?q6 ?_)
     case q1=>rfl
     case q2 =>
      intro j u hj
      match j,hj with
      | 0,hj=>simp at hj;subst hj;simp[go_sem,Addr.add]
     case q3=>intro u hu;simp at hu;subst hu;rfl
     case q4=>have:=hlen.out;simp[maxLen];omega
     case q5=>have:=hlen.out;omega
     case q6=>have:=hsA.out;simp;omega
     intro v6 w6 hown6 hgrow hnil;rw[show(w4.alloc (.cells #[.func (.func (283+d.toNat)) #[] #[.pointer (some ⟨w3.heap.size+1,0,none⟩)]] 277))=W5 from HW5.out] at hgrow;obtain⟨Z1,Z2,Z3,_,Z5⟩:=Boxed.appended HY.out.2.2.2.1 (by decide) HY.out.2.2.2.2.1 (bQ hsz hb5.size) (vQ _) hown6 hgrow;obtain⟨va,vc,rfl⟩:=bF hown6
     have ZC:Hid (kK (w6.setCell ⟨w2.heap.size,0,none⟩ (.slice va (es.length+1) vc)) w2.heap.size (.slice va (es.length+1) vc) (es++[(.func (.func 254) #[] #[.pointer (some ⟨w4.heap.size,0,none⟩),.pointer (some ⟨w3.heap.size,0,none⟩)],(p,d,z))])):=by
      have key:∀ V e,gF W5 V e->gF (w6.setCell ⟨w2.heap.size,0,none⟩ (.slice va (es.length+1) vc)) V e:=fun V e he =>
       ((he.at (ba _ _)).grow (cL HY.out.2.2.2.2.1 (ba _ _)) hgrow).setb Z1
      refine⟨by simpa using Z3,fun e he=>?_⟩;rcases gV.1 he with he|he
      ·exact key _ _ (HY.out.2.2.2.2.2 e he)
      ·obtain rfl:=fP.1 he
       exact key _ _ ⟨_,_,_,rfl,HY.out.2.2.1,HY.out.1,HY.out.2.1⟩
     have ZE:Hid ((es++[((.func (.func 254) #[] #[.pointer (some ⟨w4.heap.size,0,none⟩),.pointer (some ⟨w3.heap.size,0,none⟩)]:Value),(p,d,z))]).map (·.2)=(wh.take (i+1)).map (trp l)):=by
      show _=_
      rw[vY,HES.out,gZ,HG.out,vY];simp[trp,HF.out]
     have hbz:Below w2.heap.size w2 (w6.setCell ⟨w2.heap.size,0,none⟩ (.slice va (es.length+1) vc)):=(bt hbl hb5).trans Z5;have ZB:=qQ Z2;have z1:=Z1.cell;have z2:=Z1.frozen;clear Z1 Z2 Z3 Z5 hgrow hown6 hnil tA2 HO;go_wp2
     go_roundw
     case rel=>exact⟨i+1,by go_num,h1,HI2,hbz,_,_,ZB.out,ZC.out,ZE.out⟩
     case measure=>simp[intOf];omega
  ·obtain rfl:0=er:=by have:=HI.out;rw[wI (by omega)] at this;exact this
   have HES2:Hid (es.map (·.2)=wh.map (trp l)):=by have:=HES.out;rwa [pJ (by omega)] at this
   go_wp2;go_ret;exact⟨hbl,.inl ⟨rfl,_,_,es,vQ _,rfl,HBX.out,HT.out,HES2.out⟩⟩
end K
end Go.Proofs.YtpmioeamdhdokaaGreat
