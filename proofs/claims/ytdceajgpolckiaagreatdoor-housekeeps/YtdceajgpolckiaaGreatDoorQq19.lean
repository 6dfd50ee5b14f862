import Derived.Test.YtdceajgpolckiaaGreatDoorQq18
import Derived.Deep.RegionHeld3
import Derived.BigRegion
import Derived.Laws.MakeOwn
import Derived.RangeFuncBox
import Derived.Laws.EntriesVeiled
import Derived.RegionDies
open Go.Proofs.Tryz
set_option linter.unusedSimpArgs false
set_option maxHeartbeats 16000000
set_option maxRecDepth 100000
namespace Go.Proofs.YtdceajgpolckiaaGreatDoor
namespace K
open Go.RowKit K.Ds
abbrev Rw:=Value × List Int
def iQ (w:World) (B:Nat) (v:Value) (ts:List Rw):Prop :=
 ∃ a c,v=.slice a ts.length c/\ts.length<=c/\ts.length<=9223372036854775807/\(∀ t∈ts,zQ w B B t.1 t.2) /\
  (ts≠[]->∃ b o,a=some ⟨b,o,none⟩/\b<B/\∀ i t,ts[i]? = some t->w.cell? ⟨b,o+i,none⟩=some t.1)
def rr (ts:List Rw):List (List Int):=ts.map (·.2)
theorem aF (ts:List Rw):(rr ts).length=ts.length:=by simp[rr]
theorem xM {ts:List Rw}{i:Nat}{t:Rw}(h:ts[i]? = some t):(rr ts)[i]? = some t.2:=by simp[rr,h]
theorem iQ.keep {w w':World}{B:Nat}{v:Value}{ts:List Rw}(h:iQ w B v ts)(hb:Below B w w'):iQ w' B v ts:=by
 obtain⟨a,c,hv,hc,hl,hi,hx⟩:=h;refine⟨a,c,hv,hc,hl,fun t ht=>(hi t ht).keep hb,fun hne=>?_⟩;obtain⟨b,o,ha,hB,hcell⟩:=hx hne;exact⟨b,o,ha,hB,fun i t ht=>(hb.cell (p:=⟨b,o+i,none⟩) hB).trans (hcell i t ht)⟩
theorem iQ.at {w w':World}{B:Nat}{v:Value}{ts:List Rw}(h:iQ w B v ts)(hB:B<=w.heap.size)(hb:Below w.heap.size w w'):iQ w' B v ts:=h.keep (hb.mono hB)
theorem iQ.mono {w:World}{B B':Nat}{v:Value}{ts:List Rw}(h:iQ w B v ts)(hB:B<=B'):iQ w B' v ts:=by
 obtain⟨a,c,hv,hc,hl,hi,hx⟩:=h;refine⟨a,c,hv,hc,hl,fun t ht=>(hi t ht).mono hB (.inr hB),fun hne=>?_⟩;obtain⟨b,o,ha,hb,hcell⟩:=hx hne;exact⟨b,o,ha,by omega,hcell⟩
theorem iQ.slice {w:World}{B:Nat}{v:Value}{ts:List Rw}(h:iQ w B v ts):∃ a c,v=.slice a ts.length c/\ts.length<=c/\ts.length<=9223372036854775807:=by
 obtain⟨a,c,hv,hc,hl,_⟩:=h;exact⟨a,c,hv,hc,hl⟩
theorem iQ.get {w wr:World}{B:Nat}{a:Option Addr}{n c:Nat}{ts:List Rw}(h:iQ w B (.slice a n c) ts)(hB:B<=w.heap.size)(hb:Below w.heap.size w wr){i:Nat}(hi:i<ts.length) :
  ∃ b o sa sc xs,a=some ⟨b,o,none⟩/\b<B/\ts[i]? = some (.slice sa xs.length sc,xs)/\wr.cell? ⟨b,o+i,none⟩=some (.slice sa xs.length sc)/\zQ wr B B (.slice sa xs.length sc) xs:=by
 obtain⟨a',c',hv,_,_,hin,hx⟩:=h.at hB hb;simp only[xV] at hv;obtain⟨rfl,rfl,rfl⟩:=hv;obtain⟨b,o,rfl,hbB,hcell⟩:=hx (ne_of_lt hi);obtain⟨⟨tv,xs⟩,ht⟩:=wX hi;have hI:=hin _ (uX ht);obtain⟨sa,sc,e,_⟩:=hI.slice;simp only at e;subst e;exact⟨b,o,sa,sc,xs,rfl,hbB,ht,hcell i _ ht,hI⟩
theorem fI (B:Nat)(cv rv:Value)(l:List jQ)(ts:List Rw)(w:World)(hB:B<=w.heap.size)(hp:eQ w B cv l)(hq:iQ w B rv ts)(er:Int)(hr:fZ l (rr ts)=er) :
  Calls prog 44 #[.agg #[cv,rv]] w fun e w'=>e=.returned (.int .i64 er)/\Below w.heap.size w w':=by
 have HP:Hid (eQ w B cv l):=hp;have HQ:Hid (iQ w B rv ts):=hq;have HR:Hid (fZ l (rr ts)=er):=hr;obtain⟨a,c,rfl,hc,hl⟩:=hp.slice;obtain⟨a2,c2,rfl,hc2,hl2⟩:=hq.slice;clear hr;obtain⟨ec,hec⟩:∃ ec,Hid (yV l=ec):=⟨_,rfl⟩;have kc:=uP B _ l (w.alloc (.cells #[.slice a l.length c,.slice a2 ts.length c2] 25)) (by simp;omega) (HP.out.at hB (ba _ _)) ec hec.out;have d0:(w.alloc (.cells #[.slice a l.length c,.slice a2 ts.length c2] 25)).cell? ⟨w.heap.size,0,none⟩=some (.slice a l.length c):=nc _ _ 0 _ rfl rfl;have d1:(w.alloc (.cells #[.slice a l.length c,.slice a2 ts.length c2] 25)).cell? ⟨w.heap.size,1,none⟩=some (.slice a2 ts.length c2):=nc _ _ 1 _ rfl rfl;go_enter func44,ntmps44;go_wp2_with fail;refine kc.mono ?_;rintro e w1 ⟨rfl,hb1⟩;have hbw:Below w.heap.size w w1:=bt (ba _ _) hb1;have f0:w1.cell? ⟨w.heap.size,0,none⟩=some (.slice a l.length c):=(hb1.cell (p:=⟨w.heap.size,0,none⟩) (by simp)).trans d0;have f1:w1.cell? ⟨w.heap.size,1,none⟩=some (.slice a2 ts.length c2):=(hb1.cell (p:=⟨w.heap.size,1,none⟩) (by simp)).trans d1;have hz1:w.heap.size<w1.heap.size:=by have:=hb1.size;simp at this;omega
 clear kc d0 d1 hb1;by_cases he0:ec=0
 ·subst he0
  have HE:Hid (fZ l (rr ts)=if 4096<ts.length then 4 else pU l (rr ts)):=by show _=_;rw[fZ,xQ hec.out,aF]
  by_cases h4:4096<ts.length
  ·obtain rfl:4=er:=by rw[<-HR.out,HE.out,xQ h4]
   go_wp2;go_ret;exact⟨rfl,hbw⟩
  ·go_wp2
   go_loopw [20] (fun s wr=>∃ (i:Nat),s=.int .i64 (i:Int)/\i<=ts.length/\Hid (pU l ((rr ts).drop i)=er)/\wr=w1) (fun s _=>ts.length - (intOf s).toNat)
   case atStart=>exact⟨0,rfl,nQ _,by show _=_;rw[rM,<-HR.out,HE.out,qQ h4],rfl⟩
   case round =>
    obtain⟨i,rfl,hi,HI,rfl⟩:=hrel;by_cases h1:i<ts.length
    ·obtain⟨b,o,sa,sc,xs,rfl,hb,hg,e1,hI⟩:=HQ.out.get hB hbw h1
     have HII:Hid (zQ wr B B (.slice sa xs.length sc) xs):=hI;have ST:Hid (er=if rV l xs=0 then pU l ((rr ts).drop (i+1)) else rV l xs):=HI.out.symm.trans (t7 (xM hg));clear hg hI HI;obtain⟨ew,hew⟩:∃ ew,Hid (rV l xs=ew):=⟨_,rfl⟩;have hBr:B<=wr.heap.size:=by omega
     have kc:=b8Q B B B _ _ l xs wr hBr (HP.out.at hB hbw) hBr HII.out ew hew.out;by_cases hw0:ew=0
     ·subst hw0
      have HI2:Hid (pU l ((rr ts).drop (i+1))=er):=by show _=_;rw[ST.out,xQ hew.out]
      go_wp2_with fail;refine kc.mono ?_;rintro e w2 ⟨rfl,rfl⟩;go_wp2
      go_roundw
      case rel=>exact⟨i+1,by go_num,h1,HI2,trivial⟩
      case measure=>simp[intOf];omega
     ·have hne:(ew != 0)=true:=by simpa using hw0
      obtain rfl:ew=er:=by rw[ST.out,hew.out,qQ hw0]
      go_wp2_with fail;refine kc.mono ?_;rintro e w2 ⟨rfl,rfl⟩;go_wp2;go_ret;exact⟨rfl,hbw⟩
    ·obtain rfl:0=er:=by have:=HI.out;rw[qD (by rw[aF];omega)] at this;exact this
     go_wp2;go_ret;exact⟨rfl,hbw⟩
 ·have hne:(ec != 0)=true:=by simpa using he0
  obtain rfl:ec=er:=by rw[<-HR.out,fZ,hec.out,qQ he0]
  go_wp2;go_ret;exact⟨rfl,hbw⟩
theorem b8J (B:Nat)(cv rv:Value)(l:List jQ)(ts:List Rw)(w:World)(hB:B<=w.heap.size)(hp:eQ w B cv l)(hq:iQ w B rv ts)(er:Int)(hr:fZ l (rr ts)=er) :
  Calls prog 7 #[.agg #[cv,rv]] w fun e w'=>e=.returned (.int .i64 er)/\Below w.heap.size w w':=by
 have HP:Hid (eQ w B cv l):=hp;have HQ:Hid (iQ w B rv ts):=hq;have HR:Hid (fZ l (rr ts)=er):=hr;obtain⟨a,c,rfl,hc,hl⟩:=hp.slice;obtain⟨a2,c2,rfl,hc2,hl2⟩:=hq.slice;clear hr;obtain⟨ec,hec⟩:∃ ec,Hid (yV l=ec):=⟨_,rfl⟩;have kc:=b8Z B _ l (w.alloc (.cells #[.slice a l.length c,.slice a2 ts.length c2] 25)) (by simp;omega) (HP.out.at hB (ba _ _)) ec hec.out;have d0:(w.alloc (.cells #[.slice a l.length c,.slice a2 ts.length c2] 25)).cell? ⟨w.heap.size,0,none⟩=some (.slice a l.length c):=nc _ _ 0 _ rfl rfl;have d1:(w.alloc (.cells #[.slice a l.length c,.slice a2 ts.length c2] 25)).cell? ⟨w.heap.size,1,none⟩=some (.slice a2 ts.length c2):=nc _ _ 1 _ rfl rfl;go_enter func7,ntmps7;go_wp2_with fail;refine kc.mono ?_;rintro e w1 ⟨rfl,hb1⟩;have hbw:Below w.heap.size w w1:=bt (ba _ _) hb1;have f0:w1.cell? ⟨w.heap.size,0,none⟩=some (.slice a l.length c):=(hb1.cell (p:=⟨w.heap.size,0,none⟩) (by simp)).trans d0;have f1:w1.cell? ⟨w.heap.size,1,none⟩=some (.slice a2 ts.length c2):=(hb1.cell (p:=⟨w.heap.size,1,none⟩) (by simp)).trans d1;have hz1:w.heap.size<w1.heap.size:=by have:=hb1.size;simp at this;omega
 clear kc d0 d1 hb1;by_cases he0:ec=0
 ·subst he0
  have HE:Hid (fZ l (rr ts)=if 4096<ts.length then 4 else pU l (rr ts)):=by show _=_;rw[fZ,xQ hec.out,aF]
  by_cases h4:4096<ts.length
  ·obtain rfl:4=er:=by rw[<-HR.out,HE.out,xQ h4]
   go_wp2;go_ret;exact⟨rfl,hbw⟩
  ·go_wp2
   go_loopw [20] (fun s wr=>∃ (i:Nat),s=.int .i64 (i:Int)/\i<=ts.length/\Hid (pU l ((rr ts).drop i)=er)/\wr=w1) (fun s _=>ts.length - (intOf s).toNat)
   case atStart=>exact⟨0,rfl,nQ _,by show _=_;rw[rM,<-HR.out,HE.out,qQ h4],rfl⟩
   case round =>
    obtain⟨i,rfl,hi,HI,rfl⟩:=hrel;by_cases h1:i<ts.length
    ·obtain⟨b,o,sa,sc,xs,rfl,hb,hg,e1,hI⟩:=HQ.out.get hB hbw h1
     have HII:Hid (zQ wr B B (.slice sa xs.length sc) xs):=hI;have ST:Hid (er=if rV l xs=0 then pU l ((rr ts).drop (i+1)) else rV l xs):=HI.out.symm.trans (t7 (xM hg));clear hg hI HI;obtain⟨ew,hew⟩:∃ ew,Hid (rV l xs=ew):=⟨_,rfl⟩;have hBr:B<=wr.heap.size:=by omega
     have kc:=b8X B B B _ _ l xs wr hBr (HP.out.at hB hbw) hBr HII.out ew hew.out;by_cases hw0:ew=0
     ·subst hw0
      have HI2:Hid (pU l ((rr ts).drop (i+1))=er):=by show _=_;rw[ST.out,xQ hew.out]
      go_wp2_with fail;refine kc.mono ?_;rintro e w2 ⟨rfl,rfl⟩;go_wp2
      go_roundw
      case rel=>exact⟨i+1,by go_num,h1,HI2,trivial⟩
      case measure=>simp[intOf];omega
     ·have hne:(ew != 0)=true:=by simpa using hw0
      obtain rfl:ew=er:=by rw[ST.out,hew.out,qQ hw0]
      go_wp2_with fail;refine kc.mono ?_;rintro e w2 ⟨rfl,rfl⟩;go_wp2;go_ret;exact⟨rfl,hbw⟩
    ·obtain rfl:0=er:=by have:=HI.out;rw[qD (by rw[aF];omega)] at this;exact this
     go_wp2;go_ret;exact⟨rfl,hbw⟩
 ·have hne:(ec != 0)=true:=by simpa using he0
  obtain rfl:ec=er:=by rw[<-HR.out,fZ,hec.out,qQ he0]
  go_wp2;go_ret;exact⟨rfl,hbw⟩
theorem wO:(prog.info? 3).map (fun i=>(i.zero,i.size,i.bytes))=some (some (.int .i64 0),1,8):=by kernel_rfl
structure RowI (w:World) (g:Nat) (xs:List Int):Prop where
 cells:∀ i x,xs[i]? = some x->w.cell? ⟨g,i,none⟩=some (.int .i64 x)
 thaw:∀ i,i<xs.length->w.frozen? ⟨g,i,none⟩=false
 lt:g<w.heap.size
theorem RowI.keep {w w':World}{g N:Nat}{xs:List Int}(h:RowI w g xs)(hb:Below N w w')(hg:g<N):RowI w' g xs :=
 ⟨fun i x hi=>(hb.cell (p:=⟨g,i,none⟩) hg).trans (h.cells i x hi),fun i hi=>(hb.frozen (p:=⟨g,i,none⟩) hg).trans (h.thaw i hi),qX h.lt hb.size⟩
theorem RowI.set {w:World}{g:Nat}{xs:List Int}(h:RowI w g xs)(i:Nat)(k:Int):RowI (w.setCell ⟨g,i,none⟩ (.int .i64 k)) g (xs.set i k):=by
 refine⟨fun j x hj=>?_,fun j hj=>by rw[iZ];exact h.thaw j (by simpa using hj),by simpa using h.lt⟩;by_cases e:i=j
 ·subst e
  have hi:i<xs.length:=by have:=(lQ.1 hj).1;simpa using this
  rw[lA hi] at hj;obtain rfl:k=x:=by simpa using hj
  obtain⟨y,hy⟩:=wX hi;exact jY (h.cells i y hy)
 ·rw[yG e] at hj
  rw[rQ (fun h=>e (congrArg Addr.off h))];exact h.cells j x hj
theorem RowI.made (w:World)(n:Nat):RowI (w.alloc (.cells (madeCells #[.int .i64 0] n) 3)) w.heap.size (List.replicate n 0):=by
 refine⟨fun i x hi=>?_,fun i _=>pR _ _ _ _ rfl,by simp⟩;have h1:i<n:=by have:=(lQ.1 hi).1;simpa using this
 obtain rfl:x=0:=by
  have:=(lQ.1 hi).2;simp at this;exact this.symm
 rw[yK _ _ _ _ rfl];simp[madeCells,h1,Nat.mod_one]
theorem cP (n:Nat)(hn:n<=1073741824)(u:World):(Instr.makeSlice 37 (.int .i64 (n:Int)) (.int .i64 (n:Int))).run prog u =
  .ok (.slice (some ⟨u.heap.size,0,none⟩) n n) (u.alloc (.cells (madeCells #[.int .i64 0] n) 3)):=by
 obtain⟨i0,hi,hz0,hz1,hz2⟩:=oY wO;have h:=run_make (P:=prog) u 37 3 i0 (.int .i64 0) underlying37 hi hz0 .i64 .i64 (n:Int) (n:Int) (by omega) (zI _) (by rw[hz2];omega) (by omega);rw[aL] at h;simpa [hz1,Value.cells] using h
theorem dN {w:World}{g j:Nat}{cur:Array Value}{e:TypeId}(h:w.heap[g]? = some (.cells cur e (0,0))):w.frozen? ⟨g,j,none⟩=false:=by
 simp[World.frozen?,h]
theorem fK {w w':World}{base:Nat}{e:TypeId}{size:Nat}{v:Value}{n:Nat}{xs:List Value}(h:w.ownsRow base e size v n xs)(hb:Below w.heap.size w w'):w'.ownsRow base e size v n xs:=by
 obtain⟨h1,h2⟩:=h;refine⟨h1,?_⟩;rcases h2 with h2|⟨g,cap,cur,hv,hg,hcur,h3⟩
 ·exact .inl h2
 ·exact .inr ⟨g,cap,cur,hv,hg,by rw[hb.block g (jU.1 hcur).1];exact hcur,h3⟩
theorem mL {w:World}{base:Nat}{e:TypeId}{size:Nat}{v:Value}{n:Nat}{xs:List Value}(h:w.ownsRow base e size v n xs):∃ a c,v=.slice a n c:=by
 obtain⟨_,⟨rfl,rfl⟩|⟨g,cap,cur,rfl,_⟩⟩:=h
 ·exact⟨_,_,rfl⟩
 ·exact⟨_,_,rfl⟩
theorem b9Q {w:World}{base:Nat}{e:TypeId}{size:Nat}{v:Value}{n:Nat}{xs:List Value}(h:w.ownsRow base e size v n xs)(hne:v≠.slice none 0 0):∃ g c,v=.slice (some ⟨g,0,none⟩) n c/\base<=g/\g<w.heap.size:=by
 obtain⟨_,⟨rfl,rfl⟩|⟨g,cap,cur,rfl,hb,hcur,_⟩⟩:=h
 ·exact absurd rfl hne
 ·exact⟨g,cap,rfl,hb,(jU.1 hcur).1⟩
theorem b9X (w:World)(B:Nat):iQ w B (.slice none 0 0) []:=⟨none,0,rfl,vQ _,by simp,by simp,fun h=>absurd rfl h⟩
theorem Boxed.at {w w':World}{b:Nat}{t:TypeId}{v:Value}(h:Boxed w b t v)(hb:Below w.heap.size w w'):Boxed w' b t v:=(hb.block b h.lt).trans h
def rD (w:World) (V:Value) (e:Nat × Int × Int):Prop :=
 ∃ h i p,V=.func (.func 205) #[] #[.pointer (some ⟨h,0,none⟩),.pointer (some ⟨i,0,none⟩)]/\Boxed w h 251 (uA e.2.1 p)/\Boxed w i 3 (.int .i64 (e.1:Int))/\Boxed w p 3 (.int .i64 e.2.2)
theorem rD.at {w w':World}{V:Value}{e:Nat × Int × Int}(h:rD w V e)(hb:Below w.heap.size w w'):rD w' V e:=by
 obtain⟨h,i,p,e,h1,h2,h3⟩:=h;exact⟨h,i,p,e,Boxed.at h1 hb,Boxed.at h2 hb,Boxed.at h3 hb⟩
def sF (w:World) (lo:Nat) (v:Value) (es:List (Value × Nat × Int × Int)):Prop :=
 w.ownsRow lo 67 1 v es.length (es.map (·.1))/\∀ e∈es,rD w e.1 e.2
theorem sF.at {w w':World}{lo:Nat}{v:Value}{es:List (Value × Nat × Int × Int)}(h:sF w lo v es)(hb:Below w.heap.size w w'):sF w' lo v es :=
 ⟨fK h.1 hb,fun e he=>(h.2 e he).at hb⟩
theorem rD.grow {w w':World}{V v:Value}{e:Nat × Int × Int}{lo n:Nat}{xs:List Value}(h:rD w V e)(hr:w.ownsRow lo 67 1 v n xs)(hg:w.grownBy w' v.ownBlock):rD w' V e:=by
 obtain⟨h,i,p,e,h1,h2,h3⟩:=h;exact⟨h,i,p,e,h1.kept hg (h1.not_row (by decide) hr),h2.kept hg (h2.not_row (by decide) hr),h3.kept hg (h3.not_row (by decide) hr)⟩
theorem rD.setb {w:World}{V u v:Value}{e:Nat × Int × Int}{A:Nat}(h:rD w V e)(hA:Boxed w A 295 u):rD (w.setCell ⟨A,0,none⟩ v) V e:=by
 have ne:∀ {b:Nat} {t:TypeId} {x:Value},Boxed w b t x->t≠295->some b≠some A:=by
  intro b t x hb ht e;simp only[vX] at e;subst e;have:=(show w.heap[b]? = _ from hb).symm.trans (show w.heap[b]? = _ from hA);simp at this;exact ht this.2
 obtain⟨h,i,p,e,h1,h2,h3⟩:=h;exact⟨h,i,p,e,h1.kept (grownBy_setCell' _ _ _) (ne h1 (by decide)),h2.kept (grownBy_setCell' _ _ _) (ne h2 (by decide)),h3.kept (grownBy_setCell' _ _ _) (ne h3 (by decide))⟩
def trp (l:List jQ) (t:oX):Nat × Int × Int:=((fnd l t.1).getD 0,t.2.1,t.2.2)
def b9Z (w:World) (ps:List (Nat × Int × Int)) (er:Int) (e:Ending) (w':World):Prop :=
 Below w.heap.size w w'/\((er=0/\∃ A sv es,w.heap.size<=A/\e=.returned (.func (.func 206) #[] #[.pointer (some ⟨A,0,none⟩)])/\Boxed w' A 295 sv/\sF w' w.heap.size sv es/\es.map (·.2)=ps)\/(er≠0/\e=.panicked (chn er)))
theorem b9J:(prog.info? 67).map (fun i=>(i.zero,i.size,i.bytes))=some (some .nilFunc,1,8):=by kernel_rfl
theorem zM (B:Nat)(lv v:Value)(l:List jQ)(wh:List oX)(w:World)(hB:B<=w.heap.size)(hp:eQ w B lv l)(hq:qZ w B v wh)(er:Int)(hr:iJ l wh=er) :
  Calls prog 180 #[lv,v] w fun e w'=>b9Z w (wh.map (trp l)) er e w':=by
 have HP:Hid (eQ w B lv l):=hp;have HQ:Hid (qZ w B v wh):=hq;have HR:Hid (iJ l wh=er):=hr;obtain⟨a,c,rfl,hc,hl⟩:=hq.slice;obtain⟨a',c',rfl,hc',hl'⟩:=hp.slice;obtain⟨i0,hi0,hz0,hz1,hz2⟩:=oY b9J;have hmf:=hmf;clear hr;go_enter func180,ntmps180;by_cases h64:64<wh.length
 ·obtain rfl:4=er:=by rw[<-HR.out,iJ,xQ h64]
  have hle:¬ (wh.length:Int)<=64:=by omega
  go_wp2_with fail;refine(uY 4 w).mono ?_;rintro e w2 ⟨rfl,rfl⟩;go_wp2;exact⟨rfl,aQ _ _,.inr ⟨by decide,rfl⟩⟩
 have HR2:Hid (uD l wh=er):=by have:=HR.out;rwa [iJ,qQ h64] at this
 have hle:(wh.length:Int)<=64:=by omega
 go_wp2_with fail;refine(pD 4 w).mono ?_;rintro e w2 ⟨rfl,rfl⟩;go_wp2
 go_loopw [16] (fun s wr=>∃ (i:Nat),s=.int .i64 (i:Int)/\i<=wh.length/\Hid (uD l (wh.drop i)=er)/\Below w2.heap.size w2 wr /\
  ∃ sv es,Boxed wr w2.heap.size 295 sv/\sF wr w2.heap.size sv es/\es.map (·.2)=(wh.take i).map (trp l)) (fun s _=>wh.length - (intOf s).toNat)
 case atStart=>exact⟨0,rfl,nQ _,by simpa [Hid] using HR2.out,ba _ _,.slice none 0 0,[],Boxed.new _ _ _,⟨⟨rfl,.inl ⟨rfl,rfl⟩⟩,fun e he=>by cases he⟩,by simp⟩
 case round =>
  obtain⟨i,rfl,hi,HI,hbl,sv,es,hbx,hts,hes⟩:=hrel;have HBX:Hid (Boxed wr w2.heap.size 295 sv):=hbx;have HT:Hid (sF wr w2.heap.size sv es):=hts;have HES:Hid (es.map (·.2)=(wh.take i).map (trp l)):=hes;have hsz:=hbl.size;clear hbx hes;obtain⟨sa,sc,rfl⟩:=mL hts.1;clear hts;by_cases h1:i<wh.length
  ·obtain⟨b,o,nm,d,z,rfl,hb,hgt,c1,c2,c3,hn⟩:=HQ.out.get hB hbl h1
   have HG:Hid (wh[i]? = some (nm,d,z)):=hgt;have HST:Hid (uD l (wh.drop i)=if (fnd l nm).isSome then (if wY d then uD l (wh.drop (i+1)) else 1) else 7):=b4X hgt;have kcol:eQ (wr.alloc (.cells #[.string nm,.int .i64 d,.int .i64 z] 257)) B (.slice a' l.length c') l:=(HP.out.at hB hbl).at (by omega) (ba _ _);clear hgt;cases hf:fnd l nm with
   | none =>
    obtain rfl:7=er:=by rw[<-HI.out,HST.out,hf];rfl
    have k1:=bP B _ l nm _ (by simp;omega) kcol hf;clear hf kcol;go_wp2_with fail;refine k1.mono ?_;rintro e w3 ⟨rfl,hb3⟩;go_wp2;exact⟨rfl,bt (bal hbl _) hb3,.inr ⟨by decide,rfl⟩⟩
   | some p =>
    have k1:=tL B _ l nm _ (by simp;omega) kcol p hf;have HF:Hid (fnd l nm=some p):=hf;clear hf kcol;go_wp2_with fail;refine k1.mono ?_;rintro e w3 ⟨rfl,hb3⟩;clear k1;have e0:Cl w3 wr.heap.size 0 (.string nm):=(Cl.new (w:=wr) #[.string nm,.int .i64 d,.int .i64 z] 257 0 _ rfl rfl).at hb3;have e1:Cl w3 wr.heap.size 1 (.int .i64 d):=(Cl.new (w:=wr) #[.string nm,.int .i64 d,.int .i64 z] 257 1 _ rfl rfl).at hb3;have e2:Cl w3 wr.heap.size 2 (.int .i64 z):=(Cl.new (w:=wr) #[.string nm,.int .i64 d,.int .i64 z] 257 2 _ rfl rfl).at hb3;have hb3':Below wr.heap.size wr w3:=bt (ba _ _) hb3;have t1:=(e1.at (ba w3 (.cells #[.int .i64 (p:Int)] 3))).c;have t2:=(e2.at (ba w3 (.cells #[.int .i64 (p:Int)] 3))).c;cases hd:wY d with
    | false =>
     obtain rfl:1=er:=by rw[<-HI.out,HST.out,HF.out,hd];rfl
     have k2:=b7J d z (w3.alloc (.cells #[.int .i64 (p:Int)] 3)) hd;clear hd;go_wp2_with fail;refine k2.mono ?_;rintro e w4 ⟨rfl,hb4⟩;go_wp2;exact⟨rfl,bt (bt hbl (bt hb3' (ba _ _))) hb4,.inr ⟨by decide,rfl⟩⟩
    | true =>
     have k2:=b7Z d z (w3.alloc (.cells #[.int .i64 (p:Int)] 3)) hd;have HI2:Hid (uD l (wh.drop (i+1))=er):=by have:=HI.out;rwa [HST.out,HF.out,hd] at this
     clear hd;go_wp2_with fail;refine k2.mono ?_;rintro e w4 ⟨rfl,hw4⟩;have es1:(w3.alloc (.cells #[.int .i64 (p:Int)] 3)).heap.size=w3.heap.size+1:=by simp
     rw[es1];have hs4:Hid (w4.heap.size=w3.heap.size+2):=by show _=_;rw[hw4];simp
     have X1:Boxed w4 w3.heap.size 3 (.int .i64 (p:Int)):=by rw[hw4];exact(Boxed.new w3 3 _).alloc _
     have X2:Boxed w4 (w3.heap.size+1) 3 (.int .i64 z):=by rw[hw4];have:=Boxed.new (w3.alloc (.cells #[.int .i64 (p:Int)] 3)) 3 (.int .i64 z);rwa [es1] at this
     have hb34:Below w3.heap.size w3 w4:=by rw[hw4];exact bal (ba _ _) _
     have hb4:Below wr.heap.size wr w4:=bt hb3' hb34;clear hw4 k2 t1 t2 e0 e1 e2 hb3 hb34 es1;obtain⟨W5,hW5⟩:∃ W5,w4.alloc (.cells #[uA d (w3.heap.size+1)] 251)=W5:=⟨_,rfl⟩;have hb5:Below wr.heap.size wr W5:=by rw[<-hW5];exact bal hb4 _
     have hs5:Hid (W5.heap.size=w4.heap.size+1):=by show _=_;rw[<-hW5];simp
     have Y1:=Boxed.at X1 (by rw[<-hW5];exact ba _ _:Below w4.heap.size w4 W5);have Y2:=Boxed.at X2 (by rw[<-hW5];exact ba _ _:Below w4.heap.size w4 W5);have Y3:Boxed W5 w4.heap.size 251 (uA d (w3.heap.size+1)):=by rw[<-hW5];exact Boxed.new w4 251 _
     have YA:Boxed W5 w2.heap.size 295 (.slice sa es.length sc):=Boxed.at HBX.out hb5;have YT:sF W5 w2.heap.size (.slice sa es.length sc) es:=HT.out.at hb5;have tA:=YA.cell;have HY:Hid (Boxed W5 w3.heap.size 3 (.int .i64 (p:Int))/\Boxed W5 (w3.heap.size+1) 3 (.int .i64 z)/\Boxed W5 w4.heap.size 251 (uA d (w3.heap.size+1))/\Boxed W5 w2.heap.size 295 (.slice sa es.length sc)/\sF W5 w2.heap.size (.slice sa es.length sc) es):=⟨Y1,Y2,Y3,YA,YT⟩;clear Y1 Y2 Y3 X1 X2 YA YT;have HW5:Hid (w4.alloc (.cells #[uA d (w3.heap.size+1)] 251)=W5):=hW5;have tA2:(w4.alloc (.cells #[uA d (w3.heap.size+1)] 251)).cell? ⟨w2.heap.size,0,none⟩=some (.slice sa es.length sc):=by rw[hW5];exact tA
     have HO:Hid (((w4.alloc (.cells #[uA d (w3.heap.size+1)] 251)).alloc (.cells #[.func (.func 205) #[] #[.pointer (some ⟨w4.heap.size,0,none⟩),.pointer (some ⟨w3.heap.size,0,none⟩)]] 67)).ownsRow w2.heap.size 67 1 (.slice sa es.length sc) es.length (es.map (·.1))):=by
      show World.ownsRow _ _ _ _ _ _ _;rw[hW5];exact fK HY.out.2.2.2.2.1 (ba _ _)
     have hlen:Hid (es.length<=64):=by have:=congrArg List.length HES.out;simp at this;show _<=_;omega
     have hsA:Hid (w2.heap.size<=w4.heap.size):=by show _<=_;exact uQ hsz hb4.size
     clear hW5 tA;simp only[uA] at tA2 HO ⊢;go_wp2_with (at_builtin;refine vK _ rfl _ _ 295 rfl w2.heap.size 67 i0 .nilFunc 1 8 underlying295 hi0 hz0 hz1 hz2 rfl (by decide) _ _ _ rfl HO.out ⟨w4.heap.size+1,0,none⟩ 1 1 [.func (.func 205) #[] #[.pointer (some ⟨w4.heap.size,0,none⟩),.pointer (some ⟨w3.heap.size,0,none⟩)]] rfl ?q1 ?q2 ?q3 ?q4 ?q5 ?q6 ?_)
     case q1=>rfl
     case q2 =>
      intro j u hj
      match j,hj with
      | 0,hj=>simp at hj;subst hj;simp[go_sem,Addr.add]
     case q3=>intro u hu;simp at hu;subst hu;rfl
     case q4=>have:=hlen.out;simp[maxLen];omega
     case q5=>have:=hlen.out;omega
     case q6=>have:=hsA.out;simp;omega
     intro v6 w6 hown6 hgrow hnil;rw[show(w4.alloc (.cells #[.func (.func (231+d.toNat)) #[] #[.pointer (some ⟨w3.heap.size+1,0,none⟩)]] 251))=W5 from HW5.out] at hgrow;obtain⟨Z1,Z2,Z3,_,Z5⟩:=Boxed.appended HY.out.2.2.2.1 (by decide) HY.out.2.2.2.2.1 (uQ hsz hb5.size) (vQ _) hown6 hgrow;obtain⟨va,vc,rfl⟩:=mL hown6
     have ZC:Hid (sF (w6.setCell ⟨w2.heap.size,0,none⟩ (.slice va (es.length+1) vc)) w2.heap.size (.slice va (es.length+1) vc) (es++[(.func (.func 205) #[] #[.pointer (some ⟨w4.heap.size,0,none⟩),.pointer (some ⟨w3.heap.size,0,none⟩)],(p,d,z))])):=by
      have key:∀ V e,rD W5 V e->rD (w6.setCell ⟨w2.heap.size,0,none⟩ (.slice va (es.length+1) vc)) V e:=fun V e he =>
       ((he.at (ba _ _)).grow (fK HY.out.2.2.2.2.1 (ba _ _)) hgrow).setb Z1
      refine⟨by simpa using Z3,fun e he=>?_⟩;rcases zY.1 he with he|he
      ·exact key _ _ (HY.out.2.2.2.2.2 e he)
      ·obtain rfl:=uI.1 he
       exact key _ _ ⟨_,_,_,rfl,HY.out.2.2.1,HY.out.1,HY.out.2.1⟩
     have ZE:Hid ((es++[((.func (.func 205) #[] #[.pointer (some ⟨w4.heap.size,0,none⟩),.pointer (some ⟨w3.heap.size,0,none⟩)]:Value),(p,d,z))]).map (·.2)=(wh.take (i+1)).map (trp l)):=by
      show _=_
      rw[uG,HES.out,kZ,HG.out,uG];simp[trp,HF.out]
     have hbz:Below w2.heap.size w2 (w6.setCell ⟨w2.heap.size,0,none⟩ (.slice va (es.length+1) vc)):=(bt hbl hb5).trans Z5;have ZB:Hid (Boxed (w6.setCell ⟨w2.heap.size,0,none⟩ (.slice va (es.length+1) vc)) w2.heap.size 295 (.slice va (es.length+1) vc)):=Z2;have z1:=Z1.cell;have z2:=Z1.frozen;clear Z1 Z2 Z3 Z5 hgrow hown6 hnil tA2 HO;go_wp2
     go_roundw
     case rel=>exact⟨i+1,by go_num,h1,HI2,hbz,_,_,ZB.out,ZC.out,ZE.out⟩
     case measure=>simp[intOf];omega
  ·obtain rfl:0=er:=by have:=HI.out;rw[bH (by omega)] at this;exact this
   have HES2:Hid (es.map (·.2)=wh.map (trp l)):=by have:=HES.out;rwa [fV (by omega)] at this
   go_wp2;go_ret;exact⟨hbl,.inl ⟨rfl,_,_,es,vQ _,rfl,HBX.out,HT.out,HES2.out⟩⟩
def iN:Except Int rX->Ending
 | .error e=>.panicked (chn e)
 | .ok b=>.returned (.agg #[.int .i64 b.1,.int .i64 b.2.1,.int .i64 b.2.2])
structure Rk (W:World) (N:Nat) (k:Int) (c:ByteArray) (lo hi:Int) (wv kv:Value) (x1 x2 x3 y1 y2 y3:Int):Prop where
 a0:Cl W N 0 (.int .i64 k)
 a1:Cl W N 1 (.string c)
 a2:Cl W N 2 (.int .i64 lo)
 a3:Cl W N 3 (.int .i64 hi)
 a4:Cl W N 4 wv
 a5:Cl W N 5 kv
 b0:Cl W (N+1) 0 (.int .i64 x1)
 b1:Cl W (N+1) 1 (.int .i64 x2)
 b2:Cl W (N+1) 2 (.int .i64 x3)
 d0:Cl W (N+1+1) 0 (.int .i64 y1)
 d1:Cl W (N+1+1) 1 (.int .i64 y2)
 d2:Cl W (N+1+1) 2 (.int .i64 y3)
 e0:Cl W (N+1+1+1) 0 (.int .i64 0)
 e1:Cl W (N+1+1+1) 1 (.int .i64 0)
 e2:Cl W (N+1+1+1) 2 (.int .i64 0)
theorem Rk.at {W W':World}{N:Nat}{k:Int}{c:ByteArray}{lo hi:Int}{wv kv:Value}{x1 x2 x3 y1 y2 y3:Int}(h:Rk W N k c lo hi wv kv x1 x2 x3 y1 y2 y3)(hb:Below W.heap.size W W'):Rk W' N k c lo hi wv kv x1 x2 x3 y1 y2 y3 :=
 ⟨h.a0.at hb,h.a1.at hb,h.a2.at hb,h.a3.at hb,h.a4.at hb,h.a5.at hb,h.b0.at hb,h.b1.at hb,h.b2.at hb,h.d0.at hb,h.d1.at hb,h.d2.at hb,h.e0.at hb,h.e1.at hb,h.e2.at hb⟩
theorem Rk.new (w:World)(k:Int)(c:ByteArray)(lo hi:Int)(wv kv:Value)(x1 x2 x3 y1 y2 y3:Int) :
  Rk ((((w.alloc (.cells #[.int .i64 k,.string c,.int .i64 lo,.int .i64 hi,wv,kv] 36)).alloc (.cells #[.int .i64 x1,.int .i64 x2,.int .i64 x3] 123)).alloc (.cells #[.int .i64 y1,.int .i64 y2,.int .i64 y3] 123)).alloc (.cells #[.int .i64 0,.int .i64 0,.int .i64 0] 123)) w.heap.size k c lo hi wv kv x1 x2 x3 y1 y2 y3:=by
 constructor
 all_goals first
  | exact(((Cl.new _ 36 _ _ rfl rfl).at (ba _ _)).at (ba _ _)).at (ba _ _)
  | exact((Cl.new _ 123 _ _ (by simp) rfl).at (ba _ _)).at (ba _ _)
  | exact(Cl.new _ 123 _ _ (by simp) rfl).at (ba _ _)
  | exact Cl.new _ 123 _ _ (by simp) rfl
abbrev bF (w:World) (lv:Value) (k:Int) (c:ByteArray) (lo hi:Int) (wv kv:Value) (x1 x2 x3 y1 y2 y3:Int) (r:Except Int rX):Prop :=
 Calls prog 125 #[lv,.agg #[.int .i64 k,.string c,.int .i64 lo,.int .i64 hi,wv,kv],.agg #[.int .i64 x1,.int .i64 x2,.int .i64 x3],.agg #[.int .i64 y1,.int .i64 y2,.int .i64 y3]] w fun e w'=>e=iN r/\Below w.heap.size w w'
theorem b4 (w:World)(o1 o2 o3 o4:Obj):Below w.heap.size w ((((w.alloc o1).alloc o2).alloc o3).alloc o4):=bal (bal (bal (ba _ _) _) _) _
theorem sT {w W:World}(h:Below w.heap.size w W)(u0 u1 u2:Value):Below w.heap.size w (((W.setCell ⟨w.heap.size+1+1+1,0,none⟩ u0).setCell ⟨w.heap.size+1+1+1,1,none⟩ u1).setCell ⟨w.heap.size+1+1+1,2,none⟩ u2) :=
 bs (bs (bs h (by dsimp only;omega) _) (by dsimp only;omega) _) (by dsimp only;omega) _
theorem caQ (lv:Value)(c:ByteArray)(lo hi:Int)(wv kv:Value)(x1 x2 x3 y1 y2 y3:Int)(hx:oZ (x1,x2,x3))(hy:oZ (y1,y2,y3))(w:World):bF w lv 7 c lo hi wv kv x1 x2 x3 y1 y2 y3 (.ok (x1+y1,x2+y2,mx x3 y3)):=by
 obtain⟨p1,p2,p3,p4,p5,p6⟩:=hx;obtain⟨q1,q2,q3,q4,q5,q6⟩:=hy;simp only at p1 p2 p3 p4 p5 p6 q1 q2 q3 q4 q5 q6;go_enter func125,ntmps125;go_wp2
 ·exact yQ (v:=.agg #[.int .i64 (x1+y1),.int .i64 (x2+y2),.int .i64 (y3)]) (by simp[results,results125,go_sem]) rfl ⟨by rw[show mx x3 y3=y3 by unfold mx;split <;> omega];rfl,b4 _ _ _ _ _⟩
 ·exact yQ (v:=.agg #[.int .i64 (x1+y1),.int .i64 (x2+y2),.int .i64 (x3)]) (by simp[results,results125,go_sem]) rfl ⟨by rw[show mx x3 y3=x3 by unfold mx;split <;> omega];rfl,b4 _ _ _ _ _⟩
theorem caX (lv:Value)(c:ByteArray)(lo hi:Int)(wv kv:Value)(x1 x2 x3 y1 y2 y3:Int)(hx:oZ (x1,x2,x3))(hy:oZ (y1,y2,y3))(w:World):bF w lv 8 c lo hi wv kv x1 x2 x3 y1 y2 y3 (.ok (1,x2,x1*x3)):=by
 obtain⟨p1,p2,p3,p4,p5,p6⟩:=hx;obtain⟨q1,q2,q3,q4,q5,q6⟩:=hy;simp only at p1 p2 p3 p4 p5 p6 q1 q2 q3 q4 q5 q6;have hm:=wZ p1 p2 p5 p6;have hw:wrap64 (x1*x3)=x1*x3:=kK (by omega);go_enter func125,ntmps125;go_wp2;exact yQ (v:=.agg #[.int .i64 (1),.int .i64 (x2),.int .i64 (x1*x3)]) (by simp[results,results125,go_sem]) rfl ⟨rfl,b4 _ _ _ _ _⟩
theorem caZ (lv:Value)(c:ByteArray)(lo hi:Int)(wv kv:Value)(x1 x2 x3 y1 y2 y3:Int)(hx:oZ (x1,x2,x3))(hy:oZ (y1,y2,y3))(w:World):bF w lv 4 c lo hi wv kv x1 x2 x3 y1 y2 y3 (if x1=y1 then .ok (x1,x2+y2,x3+y3) else .error 8):=by
 obtain⟨p1,p2,p3,p4,p5,p6⟩:=hx;obtain⟨q1,q2,q3,q4,q5,q6⟩:=hy;simp only at p1 p2 p3 p4 p5 p6 q1 q2 q3 q4 q5 q6;go_enter func125,ntmps125;by_cases h:x1=y1
 ·rw[xQ h]
  subst h;go_wp2_with fail;refine(pD 8 _).mono ?_;rintro e w2 ⟨rfl,rfl⟩;go_wp2;exact yQ (v:=.agg #[.int .i64 (x1),.int .i64 (x2+y2),.int .i64 (x3+y3)]) (by simp[results,results125,go_sem]) rfl ⟨rfl,b4 _ _ _ _ _⟩
 ·rw[qQ h]
  have hq:(x1 == y1)=false:=by simpa using h
  go_wp2_with fail;refine(uY 8 _).mono ?_;rintro e w2 ⟨rfl,rfl⟩;go_wp2;exact⟨rfl,rfl,b4 _ _ _ _ _⟩
theorem caJ (lv:Value)(c:ByteArray)(lo hi:Int)(wv kv:Value)(x1 x2 x3 y1 y2 y3:Int)(hx:oZ (x1,x2,x3))(hy:oZ (y1,y2,y3))(w:World):bF w lv 5 c lo hi wv kv x1 x2 x3 y1 y2 y3 (if x1=y1 then .ok (x1,x2+y2,x3+y3) else .error 8):=by
 obtain⟨p1,p2,p3,p4,p5,p6⟩:=hx;obtain⟨q1,q2,q3,q4,q5,q6⟩:=hy;simp only at p1 p2 p3 p4 p5 p6 q1 q2 q3 q4 q5 q6;go_enter func125,ntmps125;by_cases h:x1=y1
 ·rw[xQ h]
  subst h;go_wp2_with fail;refine(pD 8 _).mono ?_;rintro e w2 ⟨rfl,rfl⟩;go_wp2;exact yQ (v:=.agg #[.int .i64 (x1),.int .i64 (x2+y2),.int .i64 (x3+y3)]) (by simp[results,results125,go_sem]) rfl ⟨rfl,b4 _ _ _ _ _⟩
 ·rw[qQ h]
  have hq:(x1 == y1)=false:=by simpa using h
  go_wp2_with fail;refine(uY 8 _).mono ?_;rintro e w2 ⟨rfl,rfl⟩;go_wp2;exact⟨rfl,rfl,b4 _ _ _ _ _⟩
theorem cbQ (lv:Value)(c:ByteArray)(lo hi:Int)(wv kv:Value)(x1 x2 x3 y1 y2 y3:Int)(hx:oZ (x1,x2,x3))(hy:oZ (y1,y2,y3))(w:World):bF w lv 9 c lo hi wv kv x1 x2 x3 y1 y2 y3 (if 0<=lo/\lo<x1 then .ok (1,x2,x3) else .error 3):=by
 obtain⟨p1,p2,p3,p4,p5,p6⟩:=hx;obtain⟨q1,q2,q3,q4,q5,q6⟩:=hy;simp only at p1 p2 p3 p4 p5 p6 q1 q2 q3 q4 q5 q6;go_enter func125,ntmps125;by_cases h:0<=lo/\lo<x1
 ·rw[xQ h]
  obtain⟨h1,h2⟩:=h;go_wp2_with fail;refine(pD 3 _).mono ?_;rintro e w2 ⟨rfl,rfl⟩;go_wp2;exact yQ (v:=.agg #[.int .i64 (1),.int .i64 (x2),.int .i64 (x3)]) (by simp[results,results125,go_sem]) rfl ⟨rfl,b4 _ _ _ _ _⟩
 ·rw[qQ h]
  by_cases h1:0<=lo
  ·have h2:¬ lo<x1:=fun h2=>h ⟨h1,h2⟩
   go_wp2_with fail;refine(uY 3 _).mono ?_;rintro e w2 ⟨rfl,rfl⟩;go_wp2;exact⟨rfl,rfl,b4 _ _ _ _ _⟩
  ·go_wp2_with fail
   refine(uY 3 _).mono ?_;rintro e w2 ⟨rfl,rfl⟩;go_wp2;exact⟨rfl,rfl,b4 _ _ _ _ _⟩
theorem cbX (lv:Value)(c:ByteArray)(lo hi:Int)(wv kv:Value)(x1 x2 x3 y1 y2 y3:Int)(hx:oZ (x1,x2,x3))(hy:oZ (y1,y2,y3))(w:World):bF w lv 6 c lo hi wv kv x1 x2 x3 y1 y2 y3 (if yY lo lo then .ok (x1,spn lo lo*x2,spn lo lo*x3) else .error 3):=by
 obtain⟨p1,p2,p3,p4,p5,p6⟩:=hx;obtain⟨q1,q2,q3,q4,q5,q6⟩:=hy;simp only at p1 p2 p3 p4 p5 p6 q1 q2 q3 q4 q5 q6;go_enter func125,ntmps125;cases h:yY lo lo with
 | true =>
  have h0:=nI h;have m1:=wZ h0.1 h0.2 p3 p4;have m2:=wZ h0.1 h0.2 p5 p6;have k1:=fun W=>pT lo lo W h;obtain⟨s,hs⟩:∃ s,spn lo lo=s:=⟨_,rfl⟩;rw[hs] at h0 m1 m2 k1;rw[xQ rfl,hs];have hw1:wrap64 (s*x2)=s*x2:=kK (by omega);have hw2:wrap64 (s*x3)=s*x3:=kK (by omega);clear hs h;go_wp2_with fail;refine(k1 _).mono ?_;rintro e w2 ⟨rfl,rfl⟩;clear k1;go_wp2;exact yQ (v:=.agg #[.int .i64 (x1),.int .i64 (s*x2),.int .i64 (s*x3)]) (by simp[results,results125,go_sem]) rfl ⟨rfl,b4 _ _ _ _ _⟩
 | false =>
  rw[qQ (by simp)];go_wp2_with fail;refine(rT lo lo _ h).mono ?_;rintro e w2 ⟨rfl,rfl⟩;go_wp2;exact⟨rfl,rfl,b4 _ _ _ _ _⟩
theorem cbZ (lv:Value)(c:ByteArray)(lo hi:Int)(wv kv:Value)(x1 x2 x3 y1 y2 y3:Int)(hx:oZ (x1,x2,x3))(hy:oZ (y1,y2,y3))(w:World)(B:Nat)(l:List jQ)(wh:List oX)(hB:B<=w.heap.size)(hp:eQ w B lv l)(hq:qZ w B wv wh)(r:Except Int rX)(hr:vU (iJ l wh) (1,1,4096)=r):bF w lv 1 c lo hi wv kv x1 x2 x3 y1 y2 y3 (r):=by
 obtain⟨p1,p2,p3,p4,p5,p6⟩:=hx;obtain⟨q1,q2,q3,q4,q5,q6⟩:=hy;simp only at p1 p2 p3 p4 p5 p6 q1 q2 q3 q4 q5 q6;obtain⟨er,her⟩:∃ er,iJ l wh=er:=⟨_,rfl⟩;rw[her] at hr;have HR:Hid (vU er (1,1,4096)=r):=hr;have rk:=Rk.new w 1 c lo hi wv kv x1 x2 x3 y1 y2 y3;have k1:=zM B lv wv l wh ((((w.alloc (.cells #[.int .i64 1,.string c,.int .i64 lo,.int .i64 hi,wv,kv] 36)).alloc (.cells #[.int .i64 x1,.int .i64 x2,.int .i64 x3] 123)).alloc (.cells #[.int .i64 y1,.int .i64 y2,.int .i64 y3] 123)).alloc (.cells #[.int .i64 0,.int .i64 0,.int .i64 0] 123)) (by simp;omega) (hp.at hB (b4 _ _ _ _ _)) (hq.at hB (b4 _ _ _ _ _)) er her;obtain⟨wa,wc,rfl,_⟩:=hq.slice;obtain⟨la,lc,rfl,hlc,hll⟩:=hp.slice;clear her hp hq hr;go_enter func125,ntmps125;go_wp2_with fail;refine k1.mono ?_;rintro e w1 ⟨hb1,h⟩;clear k1;have hbw:Below w.heap.size w w1:=bt (b4 _ _ _ _ _) hb1;have rk1:=rk.at hb1;clear hb1 rk;rcases h with⟨rfl,A,sv,es,_,rfl,_⟩|⟨he,rfl⟩
 ·obtain rfl:Except.ok (1,1,4096)=r:=by rw[<-HR.out,vU,xQ rfl]
  have t0:=rk1.e0.c;have t1:=rk1.e1.c;have t2:=rk1.e2.c;have s0:=rk1.e0.f;have s1:=rk1.e1.f;have s2:=rk1.e2.f;go_wp2;exact yQ (v:=.agg #[.int .i64 (1),.int .i64 (1),.int .i64 (4096)]) (by simp[results,results125,go_sem,t0,t1,t2]) rfl ⟨rfl,sT hbw _ _ _⟩
 ·obtain rfl:Except.error er=r:=by rw[<-HR.out,vU,qQ he]
  go_wp2;exact⟨rfl,rfl,hbw⟩
theorem cbJ (lv:Value)(c:ByteArray)(lo hi:Int)(wv kv:Value)(x1 x2 x3 y1 y2 y3:Int)(hx:oZ (x1,x2,x3))(hy:oZ (y1,y2,y3))(w:World)(B:Nat)(l:List jQ)(wh:List oX)(hB:B<=w.heap.size)(hp:eQ w B lv l)(hq:qZ w B wv wh)(r:Except Int rX)(hr:rec l 2 c lo hi wh (x1,x2,x3) (y1,y2,y3)=r):bF w lv 2 c lo hi wv kv x1 x2 x3 y1 y2 y3 (r):=by
 obtain⟨p1,p2,p3,p4,p5,p6⟩:=hx;obtain⟨q1,q2,q3,q4,q5,q6⟩:=hy;simp only at p1 p2 p3 p4 p5 p6 q1 q2 q3 q4 q5 q6;have rk:=Rk.new w 2 c lo hi wv kv x1 x2 x3 y1 y2 y3;have HP:Hid (eQ w B lv l):=hp;have HQ:Hid (qZ w B wv wh):=hq;have HR:Hid (rec l 2 c lo hi wh (x1,x2,x3) (y1,y2,y3)=r):=hr;obtain⟨wa,wc,rfl,_⟩:=hq.slice;obtain⟨la,lc,rfl,hlc,hll⟩:=hp.slice;clear hp hq hr;go_enter func125,ntmps125;cases hf:fnd l c with
 | none =>
  obtain rfl:Except.error 7=r:=by rw[<-HR.out];simp[rec,hf]
  have k1:=bP B _ l c ((((w.alloc (.cells #[.int .i64 2,.string c,.int .i64 lo,.int .i64 hi,.slice wa wh.length wc,kv] 36)).alloc (.cells #[.int .i64 x1,.int .i64 x2,.int .i64 x3] 123)).alloc (.cells #[.int .i64 y1,.int .i64 y2,.int .i64 y3] 123)).alloc (.cells #[.int .i64 0,.int .i64 0,.int .i64 0] 123)) (by simp;omega) (HP.out.at hB (b4 _ _ _ _ _)) hf;clear hf;go_wp2_with fail;refine k1.mono ?_;rintro e w1 ⟨rfl,hb1⟩;have hbw:Below w.heap.size w w1:=bt (b4 _ _ _ _ _) hb1;go_wp2;exact⟨rfl,rfl,hbw⟩
 | some i =>
  have HF:Hid (fnd l c=some i):=hf;have k1:=tL B _ l c ((((w.alloc (.cells #[.int .i64 2,.string c,.int .i64 lo,.int .i64 hi,.slice wa wh.length wc,kv] 36)).alloc (.cells #[.int .i64 x1,.int .i64 x2,.int .i64 x3] 123)).alloc (.cells #[.int .i64 y1,.int .i64 y2,.int .i64 y3] 123)).alloc (.cells #[.int .i64 0,.int .i64 0,.int .i64 0] 123)) (by simp;omega) (HP.out.at hB (b4 _ _ _ _ _)) i hf;clear hf;go_wp2_with fail;refine k1.mono ?_;rintro e w1 ⟨rfl,hb1⟩;have hbw:Below w.heap.size w w1:=bt (b4 _ _ _ _ _) hb1;have rk1:=rk.at hb1;clear hb1 rk k1;have hsw:=hbw.size;have rk1a0:=rk1.a0.c;have rk1a1:=rk1.a1.c;have rk1a2:=rk1.a2.c;have rk1a3:=rk1.a3.c;have rk1a4:=rk1.a4.c;cases hw:yY lo hi with
  | false =>
   obtain rfl:Except.error 3=r:=by rw[<-HR.out];simp[rec,HF.out,hw]
   go_wp2_with fail;refine(rT lo hi _ hw).mono ?_;rintro e w2 ⟨rfl,rfl⟩;go_wp2;exact⟨rfl,rfl,hbw⟩
  | true =>
   have h0:=nI hw;have k2:=fun W=>pT lo hi W hw;have HR2:Hid (vU (iJ l wh) (1,spn lo hi,4096*spn lo hi)=r):=by show _=_;have:=HR.out;simpa [rec,HF.out,hw] using this
   obtain⟨s,hs⟩:∃ s,spn lo hi=s:=⟨_,rfl⟩;obtain⟨er,her⟩:∃ er,iJ l wh=er:=⟨_,rfl⟩;rw[hs] at h0 k2 HR2;rw[her] at HR2;have k3:=zM B _ _ l wh w1 (by omega) (HP.out.at hB hbw) (HQ.out.at hB hbw) er her;clear hs hw her HR;have HR:Hid (vU er (1,s,4096*s)=r):=HR2;clear HR2;go_wp2_with fail;refine(k2 _).mono ?_;rintro e w2 ⟨rfl,rfl⟩;clear k2;go_wp2_with fail;refine k3.mono ?_;rintro e w3 ⟨hb3,h⟩;clear k3;have hbw3:Below w.heap.size w w3:=bt hbw hb3;have rk3:=rk1.at hb3;clear rk1a0 rk1a1 rk1a2 rk1a3 rk1a4;clear hb3 rk1 hbw hsw;rcases h with⟨rfl,A,sv,es,_,rfl,_⟩|⟨he,rfl⟩
   ·obtain rfl:Except.ok (1,s,4096*s)=r:=by rw[<-HR.out,vU,xQ rfl]
    have t0:=rk3.e0.c;have t1:=rk3.e1.c;have t2:=rk3.e2.c;have s0:=rk3.e0.f;have s1:=rk3.e1.f;have s2:=rk3.e2.f;go_wp2;exact yQ (v:=.agg #[.int .i64 (1),.int .i64 (s),.int .i64 (4096*s)]) (by simp[results,results125,go_sem,t0,t1,t2]) rfl ⟨rfl,sT hbw3 _ _ _⟩
   ·obtain rfl:Except.error er=r:=by rw[<-HR.out,vU,qQ he]
    go_wp2;exact⟨rfl,rfl,hbw3⟩
theorem ccQ (lv:Value)(c:ByteArray)(lo hi:Int)(wv kv:Value)(x1 x2 x3 y1 y2 y3:Int)(hx:oZ (x1,x2,x3))(hy:oZ (y1,y2,y3))(w:World)(B:Nat)(l:List jQ)(wh:List oX)(hB:B<=w.heap.size)(hp:eQ w B lv l)(hq:qZ w B wv wh)(r:Except Int rX)(hr:rec l 3 c lo hi wh (x1,x2,x3) (y1,y2,y3)=r):bF w lv 3 c lo hi wv kv x1 x2 x3 y1 y2 y3 (r):=by
 obtain⟨p1,p2,p3,p4,p5,p6⟩:=hx;obtain⟨q1,q2,q3,q4,q5,q6⟩:=hy;simp only at p1 p2 p3 p4 p5 p6 q1 q2 q3 q4 q5 q6;have rk:=Rk.new w 3 c lo hi wv kv x1 x2 x3 y1 y2 y3;have HP:Hid (eQ w B lv l):=hp;have HQ:Hid (qZ w B wv wh):=hq;have HR:Hid (rec l 3 c lo hi wh (x1,x2,x3) (y1,y2,y3)=r):=hr;obtain⟨wa,wc,rfl,_⟩:=hq.slice;obtain⟨la,lc,rfl,hlc,hll⟩:=hp.slice;clear hp hq hr;go_enter func125,ntmps125;cases hf:fnd l c with
 | none =>
  obtain rfl:Except.error 7=r:=by rw[<-HR.out];simp[rec,hf]
  have k1:=bP B _ l c ((((w.alloc (.cells #[.int .i64 3,.string c,.int .i64 lo,.int .i64 hi,.slice wa wh.length wc,kv] 36)).alloc (.cells #[.int .i64 x1,.int .i64 x2,.int .i64 x3] 123)).alloc (.cells #[.int .i64 y1,.int .i64 y2,.int .i64 y3] 123)).alloc (.cells #[.int .i64 0,.int .i64 0,.int .i64 0] 123)) (by simp;omega) (HP.out.at hB (b4 _ _ _ _ _)) hf;clear hf;go_wp2_with fail;refine k1.mono ?_;rintro e w1 ⟨rfl,hb1⟩;have hbw:Below w.heap.size w w1:=bt (b4 _ _ _ _ _) hb1;go_wp2;exact⟨rfl,rfl,hbw⟩
 | some i =>
  have HF:Hid (fnd l c=some i):=hf;have k1:=tL B _ l c ((((w.alloc (.cells #[.int .i64 3,.string c,.int .i64 lo,.int .i64 hi,.slice wa wh.length wc,kv] 36)).alloc (.cells #[.int .i64 x1,.int .i64 x2,.int .i64 x3] 123)).alloc (.cells #[.int .i64 y1,.int .i64 y2,.int .i64 y3] 123)).alloc (.cells #[.int .i64 0,.int .i64 0,.int .i64 0] 123)) (by simp;omega) (HP.out.at hB (b4 _ _ _ _ _)) i hf;clear hf;go_wp2_with fail;refine k1.mono ?_;rintro e w1 ⟨rfl,hb1⟩;have hbw:Below w.heap.size w w1:=bt (b4 _ _ _ _ _) hb1;have rk1:=rk.at hb1;clear hb1 rk k1;have hsw:=hbw.size;have rk1a0:=rk1.a0.c;have rk1a1:=rk1.a1.c;have rk1a2:=rk1.a2.c;have rk1a3:=rk1.a3.c;have rk1a4:=rk1.a4.c;have HR2:Hid (vU (iJ l wh) (qU l i,1,4096)=r):=by show _=_;have:=HR.out;simpa [rec,HF.out] using this
  obtain⟨er,her⟩:∃ er,iJ l wh=er:=⟨_,rfl⟩;rw[her] at HR2;have k3:=zM B _ _ l wh w1 (by omega) (HP.out.at hB hbw) (HQ.out.at hB hbw) er her;clear her HR;have HR:Hid (vU er (qU l i,1,4096)=r):=HR2;clear HR2;go_wp2_with fail;refine k3.mono ?_;rintro e w3 ⟨hb3,h⟩;clear k3;have hbw3:Below w.heap.size w w3:=bt hbw hb3;have rk3:=rk1.at hb3;clear rk1a0 rk1a1 rk1a2 rk1a3 rk1a4;clear hb3 rk1 hbw hsw;have hil:=mI HF.out;obtain⟨b,o,nm,sz,rfl,hb,hgt,c1,c2,hn⟩:=HP.out.get hB hbw3 hil;have hsz:qU l i=sz:=by simp[qU,hgt]
  rw[hsz] at HR;clear hgt hsz;rcases h with⟨rfl,A,sv,es,_,rfl,_⟩|⟨he,rfl⟩
  ·obtain rfl:Except.ok (sz,1,4096)=r:=by rw[<-HR.out,vU,xQ rfl]
   have t0:=rk3.e0.c;have t1:=rk3.e1.c;have t2:=rk3.e2.c;have s0:=rk3.e0.f;have s1:=rk3.e1.f;have s2:=rk3.e2.f;go_wp2;exact yQ (v:=.agg #[.int .i64 (sz),.int .i64 (1),.int .i64 (4096)]) (by simp[results,results125,go_sem,t0,t1,t2]) rfl ⟨rfl,sT hbw3 _ _ _⟩
  ·obtain rfl:Except.error er=r:=by rw[<-HR.out,vU,qQ he]
   go_wp2;exact⟨rfl,rfl,hbw3⟩
theorem ccX (lv:Value)(c:ByteArray)(lo hi:Int)(wv kv:Value)(x1 x2 x3 y1 y2 y3:Int)(hx:oZ (x1,x2,x3))(hy:oZ (y1,y2,y3))(w:World):bF w lv 10 c lo hi wv kv x1 x2 x3 y1 y2 y3 (if yY lo hi then .ok (x1,x2,spn lo hi) else .error 3):=by
 obtain⟨p1,p2,p3,p4,p5,p6⟩:=hx;obtain⟨q1,q2,q3,q4,q5,q6⟩:=hy;simp only at p1 p2 p3 p4 p5 p6 q1 q2 q3 q4 q5 q6;go_enter func125,ntmps125;cases h:yY lo hi with
 | true =>
  have k1:=fun W=>pT lo hi W h;rw[xQ rfl];clear h;go_wp2
  go_region_held3 (fun w'=>w'.cell? ⟨w.heap.size,2,none⟩=some (.int .i64 lo)/\w'.cell? ⟨w.heap.size,3,none⟩=some (.int .i64 hi)/\w'.cell? ⟨w.heap.size+1,0,none⟩=some (.int .i64 x1)/\w'.cell? ⟨w.heap.size+1,1,none⟩=some (.int .i64 x2)) (first|assumption|(simp[go_sem, *];done)) ((go_at_call 181;refine(k1 _).mono ?_;rintro x3 w3 ⟨rfl,hw3⟩;subst hw3))
  go_wp2;exact yQ (v:=.agg #[.int .i64 x1,.int .i64 x2,.int .i64 (spn lo hi)]) (by simp[results,results125,go_sem]) rfl ⟨rfl,(b4 _ _ _ _ _).drew⟩
 | false =>
  have k1:=fun W=>rT lo hi W h;rw[qQ (by simp)];clear h;go_wp2
  go_region_dies
  all_goals (go_at_call 181;refine(k1 _).mono ?_;rintro x3 w3 ⟨rfl,hw3⟩;subst hw3;exact⟨rfl,rfl,(b4 _ _ _ _ _).drew⟩)
