import Derived.Test.YtdceajgpolckiaaGreatDoorQq07
open Go.Proofs.Tryz
set_option linter.unusedSimpArgs false
set_option maxHeartbeats 16000000
set_option maxRecDepth 100000
namespace Go.Proofs.YtdceajgpolckiaaGreatDoor
section
open Go.RowKit Ds
def boX (l:List Pt) (er:Int) (w:World) (e:Ending) (w':World):Prop :=
 Below w.heap.size w w'/\((er≠0/\e=.returned (.tuple #[.pointer none,.int .i64 er])) \/
  (er=0/\∃ E a c us,e=.returned (.tuple #[.pointer (some ⟨E,0,none⟩),.int .i64 0])/\rd us=l/\Rob w' E (.slice a us.length c) (tot l) 0 0 1/\Rop w' w'.heap.size E a c us/\w.heap.size<=E))
theorem boZ {us:List Tr}{i:Nat}{s s':Value}{xs:List Int}{k:Int}(h:us[i]? = some (s,xs,k)):rd (us.set i (s',xs,k))=rd us:=by
 rw[qT];refine zK fun j=>?_;by_cases e:i=j
 ·subst e
  have:=aU h;rw[lA (by have:=(lQ.1 this).1;exact this),this]
 ·rw[yG e]
theorem Row.setL {w:World}{b:Nat}{us:List Tr}(h:Row w b 0 us){i:Nat}{s:Value}{xs:List Int}{k:Int}(ht:us[i]? = some (s,xs,k))(s':Value) :
  Row (w.setCell ⟨b,i*2,none⟩ s') b 0 (us.set i (s',xs,k)):=by
 have hi:=(lQ.1 ht).1;refine⟨fun j u hu=>?_,fun j hj=>by rw[iZ];exact h.thaw j (by simpa using hj),by simpa using h.lt⟩;simp only[jZ];by_cases hj:i=j
 ·subst hj
  rw[lA hi] at hu;obtain rfl:(s',xs,k)=u:=by simpa using hu
  have c:=h.cells i _ ht;simp only[jZ] at c;exact⟨jY c.1,by rw[rQ (by simp)];exact c.2⟩
 ·rw[yG hj] at hu
  have c:=h.cells j u hu;simp only[jZ] at c;exact⟨by rw[rQ (by simp <;> omega)];exact c.1,by rw[rQ (by simp <;> omega)];exact c.2⟩
theorem zQ.set2 {w:World}{B b m:Nat}{v:Value}{xs:List Int}(h:zQ w B b v xs)(hm:zQ w B m v xs)(k:Nat)(u:Value):zQ (w.setCell ⟨b,k,none⟩ u) B m v xs:=by
 obtain⟨a,c,hv,hc,hl,hx⟩:=hm;refine⟨a,c,hv,hc,hl,fun hne=>?_⟩;obtain⟨b1,o1,ha,hb,hn,hcell⟩:=hx hne;refine⟨b1,o1,ha,hb,hn,fun i x hi=>?_⟩;rw[rQ]
 ·exact hcell i x hi
 ·obtain⟨a2,c2,hv2,_,_,hx2⟩:=h
  obtain⟨b2,o2,ha2,_,hn2,_⟩:=hx2 hne;rw[hv,ha,ha2] at hv2;simp only[xV,vX,mF] at hv2;intro e;simp only[mF] at e;omega
theorem jP (B:Nat)(v:Value)(ts:List Tr)(w:World)(hB:B<=w.heap.size)(hp:xX w B v ts)(l0:List Pt)(er:Int)(hr:bU (rd ts)=(l0,er)) :
  Calls prog 98 #[v] w (boX (rd ts) er w):=by
 have kw:=fI B v ts w hB hp er (by rw[hr]);have HP:Hid (xX w B v ts):=hp;have HR:Hid (bU (rd ts)=(l0,er)):=hr;obtain⟨a,c,rfl,hc,hl,_⟩:=hp;clear hr;go_enter func98,ntmps98;go_wp2_with fail;refine kw.mono ?_;rintro e w1 ⟨rfl,hb1⟩;clear kw;by_cases h0:er=0
 ·subst h0
  obtain⟨_,hdis⟩:=yT HR.out;have HD:Hid (Dis (rd ts)):=hdis;have hne:Hid (ts≠[]):=fun h=>hdis.ne (by rw[h];rfl);have hfw:ts.length<=4096:=by have:=hdis.few;rwa [fG] at this
  have hs1:=hb1.size;have kc:=gW B _ ts w1 (by omega) (HP.out.at hB hb1);clear hdis;go_wp2_with fail;refine kc.mono ?_;rintro e w2 ⟨v2,rfl,hb2,h2⟩
  obtain⟨g,cap,rfl,hcap,hg1,hrow⟩:∃ g cap,v2=.slice (some ⟨g,0,none⟩) ts.length cap/\ts.length<=cap/\w1.heap.size<=g/\Row w2 g 0 ts:=by
   rcases h2 with⟨h,_⟩|h
   ·exact absurd h hne.out
   ·exact h
  have HW2:Hid (Row w2 g 0 ts):=hrow;have hg2:=hrow.lt;have kb:=dW w2;clear kc h2 hrow;go_wp2_with fail;refine kb.mono ?_;rintro e w3 ⟨rfl,hb3⟩;have hs2:=hb2.size;have hs3:=hb3.size;clear kb;go_wp2;generalize hX:w3.alloc (.cells #[.slice (some ⟨g,0,none⟩) ts.length cap,.int .i64 0,.int .i64 0,.int .i64 0,.int .i64 1] 247)=X;have hbX:Below w.heap.size w X:=hX▸bal (bt (bt hb1 hb2) hb3) _;have HRX:Hid (Rob X w3.heap.size (.slice (some ⟨g,0,none⟩) ts.length cap) 0 0 0 1):=hX▸⟨nc _ _ 0 _ rfl rfl,nc _ _ 1 _ rfl rfl,nc _ _ 2 _ rfl rfl,nc _ _ 3 _ rfl rfl,nc _ _ 4 _ rfl rfl,fun j=>nf _ _ j rfl,by simp⟩;have HWX:Hid (Row X g 0 ts):=hX▸(HW2.out.keep hb3).keep (ba _ _);have hgE:g<w3.heap.size:=by omega
  have hwE:w.heap.size<=w3.heap.size:=by omega
  have hwg:w.heap.size<=g:=by omega
  clear hX;generalize hE:w3.heap.size=E at hgE hwE HRX ⊢;clear hb1 hb2 hb3 HW2 hs1 hs2 hs3 hE hg1 hg2
  go_loopw [20] (fun iv wr=>∃ (i:Nat) (us:List Tr),iv=.int .i64 (i:Int)/\i<=ts.length/\us.length=ts.length/\Hid (rd us=rd ts)/\Hid (Row wr g 0 us)/\Hid (∀ t∈us,∀ m,m=E\/m=g->zQ wr wr.heap.size m t.1 t.2.1)/\Hid (Rob wr E (.slice (some ⟨g,0,none⟩) ts.length cap) (tot ((rd ts).take i)) 0 0 1)/\Below w.heap.size w wr) (fun iv _=>ts.length - (intOf iv).toNat)
  case atStart =>
   refine⟨0,ts,rfl,nQ _,rfl,rfl,HWX,fun t ht m hm=>?_,by simpa [tot] using HRX,hbX⟩;obtain⟨_,_,_,_,_,hI,_⟩:=HP.out.at hB hbX;exact(hI t ht).mono (uQ hB hbX.size) (.inr (by omega))
  case round =>
   obtain⟨i,us,rfl,hit,hul,HU,HW,HI,HR1,hbl⟩:=hrel;have hrl:=HR1.out.lt;have HUL:Hid (us.length=ts.length):=hul;clear hul;by_cases h1:i<ts.length
   ·obtain⟨b,o,sa,sc,xs,k,rfl,hb,hs,c1,c2,hIx⟩:=HP.out.get hB hbl h1
    have HS:Hid (ts[i]? = some (.slice sa xs.length sc,xs,k)):=hs;obtain⟨⟨s0,xs0,k0⟩,hs0⟩:=wX (l:=us) (i:=i) (by have:=HUL.out;omega)
    have hxk:xs0=xs/\k0=k:=by
     have e1:=aU hs0;rw[HU.out,aU hs] at e1;simp only[vX,cQ] at e1;exact⟨e1.1.symm,e1.2.symm⟩
    obtain⟨rfl,rfl⟩:=hxk;have HS0:Hid (us[i]? = some (s0,xs0,k0)):=hs0;have r1:=(HW.out.cells i _ hs0).1;have r2:=HW.out.thaw (i*2) (by have:=HUL.out;omega);simp only[jZ] at r1 r2;have HIx:Hid (zQ wr B B (.slice sa xs0.length sc) xs0):=hIx;clear hs hs0 hIx;go_wp2_with fail;generalize hO:Obj.cells #[Value.slice sa xs0.length sc,Value.int IntKind.i64 k0] 77=O;have HSW:Hid (Rv (wr.alloc O) wr.heap.size (.slice sa xs0.length sc) k0):=hO▸Rv.new _ _ _ _ _ rfl;have HRW:Hid (Rob (wr.alloc O) E (.slice (some ⟨g,0,none⟩) ts.length cap) (tot ((rd ts).take i)) 0 0 1):=HR1.out.alloc O;have hgl:=HW.out.lt;have t1:(wr.alloc O).cell? ⟨g,i*2,none⟩=some s0:=((ba wr O).cell (p:=⟨g,i*2,none⟩) hgl).trans r1;have t2:(wr.alloc O).frozen? ⟨g,i*2,none⟩=false:=((ba wr O).frozen (p:=⟨g,i*2,none⟩) hgl).trans r2;have g7:(wr.alloc O).heap.size=wr.heap.size+1:=by simp
    obtain⟨W,hW⟩:∃ W,wr.alloc O=W:=⟨_,rfl⟩;have HB:Hid (Below wr.heap.size wr W):=hW▸ba wr O;rw[hW] at HSW HRW t1 t2 g7 ⊢;clear hO hW r1 r2 c1 c2;have s1:=HSW.out.c0;have s2:=HRW.out.c0;have ne1:¬ g=E:=by omega
    have ne2:¬ E=g:=by omega
    have ne3:¬ g=wr.heap.size:=by omega
    have ne4:¬ wr.heap.size=g:=by omega
    have lw1:g<W.heap.size:=by omega
    have lw2:wr.heap.size<W.heap.size:=by omega
    have lw3:E<W.heap.size:=by omega
    have y1:(i:Int)<(ts.length:Int):=by omega
    go_region_held3 (fun w'=>w'.cell? ⟨wr.heap.size,0,none⟩=some (.slice sa xs0.length sc)/\w'.cell? ⟨E,0,none⟩=some (.slice (some ⟨g,0,none⟩) ts.length cap))
     ((go_split_ands;refine⟨?_,?_⟩ <;> first|assumption|(simp[go_sem, *];done)))
     ((go_at_call 92;refine(eN B B _ xs0 _ ?_ ?_).mono ?_;(have:=HB.out.size;have:=hbl.size;show B<=W.heap.size;omega);(exact HIx.out.at (by have:=hbl.size;omega) HB.out.drew);rintro x1 w4 ⟨v',rfl,hI4,hb4⟩;obtain⟨av,cv,hv1,_⟩:=hI4 0 (by show 0<W.heap.size;omega);subst hv1;obtain⟨hc4,hf4⟩:=bcell hb4;have hs4:W.heap.size<=w4.heap.size:=hb4.size;have q1:w4.cell? ⟨g,i*2,none⟩=some s0:=(hc4 _ _ lw1).trans t1;have q2:w4.frozen? ⟨g,i*2,none⟩=false:=(hf4 _ _ lw1).trans t2;have q3:w4.cell? ⟨wr.heap.size,0,none⟩=some (.slice sa xs0.length sc):=(hc4 _ _ lw2).trans s1;have q4:w4.cell? ⟨E,0,none⟩=some (.slice (some ⟨g,0,none⟩) ts.length cap):=(hc4 _ _ lw3).trans s2;clear hc4 hf4))
    have hbW:Below wr.heap.size wr w4:=bt HB.out.drew hb4;have HSY:Hid (Rv (w4.setCell ⟨g,i*2,none⟩ (.slice av xs0.length cv)) wr.heap.size (.slice sa xs0.length sc) k0):=(HSW.out.below ((aQ _ W).drew.trans hb4)).other g (i*2) (by omega) _;have HRY:Hid (Rob (w4.setCell ⟨g,i*2,none⟩ (.slice av xs0.length cv)) E (.slice (some ⟨g,0,none⟩) ts.length cap) (tot ((rd ts).take i)) 0 0 1):=(HR1.out.at hbW).other g (i*2) (by omega) _;have HWY:Hid (Row (w4.setCell ⟨g,i*2,none⟩ (.slice av xs0.length cv)) g 0 (us.set i (.slice av xs0.length cv,xs0,k0))):=(HW.out.keep hbW).setL HS0.out _;have HUY:Hid (rd (us.set i (.slice av xs0.length cv,xs0,k0))=rd ts):=by rw[Hid,boZ HS0.out];exact HU.out
    have HIY:Hid (∀ t∈us.set i (.slice av xs0.length cv,xs0,k0),∀ m,m=E\/m=g->zQ (w4.setCell ⟨g,i*2,none⟩ (.slice av xs0.length cv)) (w4.setCell ⟨g,i*2,none⟩ (.slice av xs0.length cv)).heap.size m t.1 t.2.1):=by
     intro t ht m hm
     have key:∀ (s:Value) (x:List Int),zQ w4 w4.heap.size g s x->zQ w4 w4.heap.size m s x->zQ (w4.setCell ⟨g,i*2,none⟩ (.slice av xs0.length cv)) (w4.setCell ⟨g,i*2,none⟩ (.slice av xs0.length cv)).heap.size m s x:=by
      intro s x hg hm2;have h1:=zQ.set2 hg hm2 (i*2) (.slice av xs0.length cv);simpa using h1
     rcases aI ht with h|rfl
     ·exact key _ _ ((HI.out t h g (.inr rfl)).at2 hbW) ((HI.out t h m hm).at2 hbW)
     ·exact key _ _ (hI4 g lw1) (hI4 m (by show m<W.heap.size;omega))
    have hbY:Below w.heap.size w (w4.setCell ⟨g,i*2,none⟩ (.slice av xs0.length cv)):=bs (bt hbl hbW) (p:=⟨g,i*2,none⟩) hwg _;have HT:Hid (tot ((rd ts).take (i+1))=tot ((rd ts).take i)+k0):=mS (aU HS.out);have ht1:=(Nn.of_pos HD.out.pos).tot_take_le i;have ht2:=(Nn.of_pos HD.out.pos).tot_take_le (i+1);have ht3:=HD.out.le;rw[HT.out] at ht2;obtain⟨tt,htt⟩:∃ tt,tot ((rd ts).take i)=tt:=⟨_,rfl⟩;have HTT:Hid (tot ((rd ts).take i)=tt):=htt;rw[htt] at HRY ht1 ht2;have hbd:0<=tt/\tt<=1073741824/\0<=tt+k0/\tt+k0<=1073741824:=by omega
    generalize hYY:w4.setCell ⟨g,i*2,none⟩ (.slice av xs0.length cv)=Y at HSY HRY HWY HIY hbY ⊢;clear hYY htt ht1 ht2 ht3 hb4 hI4 hbW q1 q2 q3 q4 s1 s2 t1 t2 HSW HRW HR1 HW HI HU HB;have s1:=HSY.out.c1;have s2:=HRY.out.c1;have s3:=HRY.out.fz 1;go_wp2
    go_region
    go_wp2
    go_roundw
    case rel =>
     refine⟨i+1,us.set i (.slice av xs0.length cv,xs0,k0),by go_num,h1,by simpa using HUL.out,HUY,?_,?_,?_,(bs hbY (p:=⟨E,1,none⟩) hwE _).drew⟩
     ·have:=HWY.out
      exact⟨fun j u hu=>by
       have c:=this.cells j u hu;exact⟨by rw[show((Y.setCell ⟨E,1,none⟩ (.int .i64 (tt+k0))).drew).cell? ⟨g,0+j*2,none⟩=(Y.setCell ⟨E,1,none⟩ (.int .i64 (tt+k0))).cell? ⟨g,0+j*2,none⟩ from rfl,rQ (fun e=>ne2 (congrArg Addr.block e))];exact c.1,by rw[show((Y.setCell ⟨E,1,none⟩ (.int .i64 (tt+k0))).drew).cell? ⟨g,0+j*2+1,none⟩=(Y.setCell ⟨E,1,none⟩ (.int .i64 (tt+k0))).cell? ⟨g,0+j*2+1,none⟩ from rfl,rQ (fun e=>ne2 (congrArg Addr.block e))];exact c.2⟩,
       fun j hj=>by
        have c:=this.thaw j hj;exact(iZ (w:=Y) (a:=⟨E,1,none⟩) (b:=⟨g,0+j,none⟩) (v:=.int .i64 (tt+k0))).trans c,by have:=this.lt;simpa using this⟩
     ·intro t ht m hm
      have h1:=zQ.set2 (HIY.out t ht E (.inl rfl)) (HIY.out t ht m hm) 1 (.int .i64 (tt+k0));have h2:zQ (Y.setCell ⟨E,1,none⟩ (.int .i64 (tt+k0))).drew Y.heap.size m t.1 t.2.1:=h1.keep (aQ _ _).drew;simpa using h2
     ·rw[HT.out,HTT.out]
      exact(HRY.out.s1 (tt+k0)).drew
    case measure=>simp[intOf];omega
   ·have HT:Hid (tot ((rd ts).take i)=tot (rd ts)):=by rw[Hid,cI (by omega)]
    rw[HT.out] at HR1;go_wp2;refine yQ (v:=.tuple #[.pointer (some ⟨E,0,none⟩),.int .i64 0]) (by simp[results,results98,go_sem]) rfl ⟨hbl,.inr ⟨rfl,E,some ⟨g,0,none⟩,cap,us,rfl,HU.out,by rw[HUL.out];exact HR1.out,⟨by rw[HUL.out];exact hcap,by rw[HUL.out];exact hfw,fun _=>⟨g,0,rfl,HW.out.lt,by omega,HW.out.cells⟩,fun t ht=>HI.out t ht E (.inl rfl)⟩,hwE⟩⟩
 ·have h0':(er == 0)=false:=by simpa using h0
  go_wp2;exact yQ (v:=.tuple #[.pointer none,.int .i64 er]) (by simp[results,results98,go_sem]) rfl ⟨hb1,.inl ⟨h0,rfl⟩⟩
theorem boJ {w:World}{base:Nat}{v:Value}{ts:List Tr}{n:Nat}(hn:n=ts.length)(h:w.ownsRow base 197 2 v n (flat ts))(hne:v≠.slice none 0 0) :
  ∃ g cap,v=.slice (some ⟨g,0,none⟩) ts.length cap/\ts.length<=cap/\base<=g/\Row w g 0 ts:=by
 subst hn;obtain⟨_,⟨hv,_⟩|⟨g,cap,cur,hv,hb,hcur,hc,_,hsz,hx⟩⟩:=h
 ·exact absurd hv hne
 ·have hget:∀ j u,(flat ts)[j]? = some u->w.cell? ⟨g,0+j,none⟩=some u:=by
   intro j u hj;have hj2:j<ts.length*2:=by rw[<-dI];exact(lQ.1 hj).1
   have:cur[j]? = some u:=by
    rw[<-hx,jI hj2] at hj;simpa using hj
   simp[World.cell?,hcur,this]
  refine⟨g,cap,hv,hc,hb,⟨fun i t ht=>?_,fun j _=>dN hcur,(jU.1 hcur).1⟩⟩;have hg:=pS ts i;exact⟨hget _ _ (by rw[hg.1,ht];rfl),by rw[aG];exact hget _ _ (by rw[hg.2,ht];rfl)⟩
def eY (w:World) (lo:Nat) (v:Value) (ds:List Tr):Prop :=
 w.ownsRow lo 197 2 v ds.length (flat ds)/\∀ t∈ds,∃ m,zQ w w.heap.size m t.1 t.2.1/\∀ g,v.ownBlock=some g->m=g
theorem eY.nil (w:World)(lo:Nat):eY w lo (.slice none 0 0) []:=⟨⟨rfl,.inl ⟨rfl,rfl⟩⟩,fun t ht=>by cases ht⟩
theorem eY.keep {w w':World}{lo:Nat}{v:Value}{ds:List Tr}(h:eY w lo v ds)(hb:Below w.heap.size w w'):eY w' lo v ds :=
 ⟨fK h.1 hb,fun t ht=>let ⟨m,h1,h2⟩:=h.2 t ht;⟨m,h1.at2 hb,h2⟩⟩
theorem eY.slice {w:World}{lo:Nat}{v:Value}{ds:List Tr}(h:eY w lo v ds):∃ a c,v=.slice a ds.length c:=mL h.1
theorem eY.lt {w:World}{lo:Nat}{v:Value}{ds:List Tr}(h:eY w lo v ds):∀ g,v.ownBlock=some g->lo<=g/\g<w.heap.size:=h.1.lt
theorem eY.app {W w':World}{lo:Nat}{v v' s:Value}{ds:List Tr}{xs:List Int}{k:Int}{m:Nat}(h:eY W lo v ds)(hown:w'.ownsRow lo 197 2 v' (ds.length+1) (flat ds++[s,.int .i64 k]))(hg:W.grownBy w' v.ownBlock)
  (hat:v'.ownBlock=v.ownBlock\/v'.ownBlock=some W.heap.size) (hi:zQ W W.heap.size m s xs) (hm:∀ g,v.ownBlock=some g->m=g):eY w' lo v' (ds++[(s,xs,k)]):=by
 refine⟨by rw[<-fW];simpa using hown,fun t ht=>?_⟩
 have key:∀ (m:Nat) (s:Value) (xs:List Int),zQ W W.heap.size m s xs->(∀ g,v.ownBlock=some g->m=g)->∃ m',zQ w' w'.heap.size m' s xs/\∀ g,v'.ownBlock=some g->m' = g:=by
  intro m s xs h1 h2;rcases hat with hat|hat
  ·exact⟨m,h1.grow hg (vQ _) h2 (.inl rfl),by rw[hat];exact h2⟩
  ·exact⟨W.heap.size,h1.grow hg (vQ _) h2 (.inr (vQ _)),by rw[hat];intro g e;simpa using e⟩
 rcases zY.1 ht with ht|ht
 ·obtain⟨m,h1,h2⟩:=h.2 t ht
  exact key m t.1 t.2.1 h1 h2
 ·obtain rfl:t=(s,xs,k):=by simpa using ht
  exact key m s xs hi hm
theorem eY.parts {w:World}{lo:Nat}{v:Value}{ds:List Tr}(h:eY w lo v ds)(hl:ds.length<=1073741824):xX w w.heap.size v ds:=by
 have hi:∀ t∈ds,zQ w w.heap.size w.heap.size t.1 t.2.1:=fun t ht=>let ⟨m,h1,_⟩:=h.2 t ht;h1.mono (vQ _) (.inr (vQ _));by_cases hv:v=.slice none 0 0
 ·subst hv
  have h0:ds=[]:=by
   obtain⟨_,⟨_,h0⟩|⟨g,cap,cur,hv,_⟩⟩:=h.1
   ·exact xK.1 h0
   ·cases hv
  subst h0;exact lH w _
 ·obtain⟨g,cap,rfl,hcap,hgb,hrow⟩:=boJ rfl h.1 hv
  exact⟨_,cap,rfl,hcap,hl,hi,fun _=>⟨g,0,rfl,hrow.lt,hrow.cells⟩⟩
theorem bpQ:(prog.info? 197).map (fun i=>(i.zero,i.size,i.bytes))=some (some (.agg #[.slice none 0 0,.int .i64 0]),2,32):=by kernel_rfl
theorem eY.gb {w w':World}{lo E:Nat}{v:Value}{ds:List Tr}(h:eY w lo v ds)(hg:w.grownBy w' (some E))(hE:E<lo)(hf:nX lo ds):eY w' lo v ds:=by
 refine⟨h.1.kept hg ?_,fun t ht=>?_⟩
 ·cases e:v.ownBlock with
  | none=>exact .inl rfl
  | some g=>exact .inr (by have:=(h.lt g e).1;simp;omega)
 ·obtain⟨m,⟨a,c,hv,hc,hl,hx⟩,h2⟩:=h.2 t ht
  refine⟨m,⟨a,c,hv,hc,hl,fun hne=>?_⟩,h2⟩;obtain⟨b,o,ha,hb,hn,hcell⟩:=hx hne;have:=hf t ht hne b o none t.2.1.length c (by rw[hv,ha]);have:=hg.size;exact⟨b,o,ha,by omega,hn,fun i x hi=>hg.cell (hcell i x hi) (by simp;omega)⟩
theorem nX.snoc {lo:Nat}{ds:List Tr}{t:Tr}(h:nX lo ds)(ht:t.2.1≠[]->∀ b o sp n c,t.1=.slice (some ⟨b,o,sp⟩) n c->lo<=b):nX lo (ds++[t]):=by
 intro u hu;rcases zY.1 hu with h1|h1
 ·exact h u h1
 ·obtain rfl:u=t:=by simpa using h1
  exact ht
theorem bpX {v:Value}{n:Nat}(h:∀ g,v.ownBlock=some g->g<n)(hn:0<n):∃ m,m<n/\∀ g,v.ownBlock=some g->m=g:=by
 cases e:v.ownBlock with
 | none=>exact⟨0,hn,fun g e=>by cases e⟩
 | some g=>exact⟨g,h g e,fun g' e=>by simpa using e⟩
def rF (nx:Nx) (bits:List Int) (times:Int):List Pt × Int:=if nA bits times=0 then (zF nx times.toNat bits,0) else ([],nA bits times)
def iG (lo:Nat) (v:Value) (ds:List Tr):Prop:=(∀ g,v.ownBlock=some g->lo<=g)/\nX lo ds
theorem iG.nil (lo:Nat):iG lo (.slice none 0 0) []:=⟨fun g h=>by simp[Value.ownBlock] at h,nX.nil lo⟩
theorem iG.mono {lo lo':Nat}{v:Value}{ds:List Tr}(h:iG lo v ds)(hl:lo'<=lo):iG lo' v ds:=⟨fun g e=>uQ hl (h.1 g e),h.2.mono hl⟩
def bpZ (E:Nat) (l:List Pt) (er:Int) (w:World) (e:Ending) (w':World):Prop :=
 ∃ v' ds,e=.returned (.tuple #[v',.int .i64 er])/\rd ds=l/\xX w' w'.heap.size v' ds/\w.grownBy w' (some E)/\iG w.heap.size v' ds
def pX (l:List Pt) (er:Int) (w:World) (e:Ending) (w':World):Prop :=
 ∃ v' ds,e=.returned (.tuple #[v',.int .i64 er])/\rd ds=l/\xX w' w'.heap.size v' ds/\Below w.heap.size w w'/\iG w.heap.size v' ds
def vD (b:Int):Bool:=decide (b=0\/b=1)
theorem iW (l:List Int):dY l = !l.all vD:=by
 rw[dY,List.not_all_eq_any_not];congr 1;funext b;simp[vD]
theorem lW (n:Int)(w:World):Calls prog 157 #[.int .i64 n] w fun e w'=>e=.returned (.bool (!vD n))/\w' = w:=by
 unfold vD;by_cases h1:n=0
 ·subst h1
  rw[vG (by omega)];go_enter func157,ntmps157;go_wp2;go_ret;exact⟨rfl,rfl⟩
 ·have h1':(n == 0)=false:=by simpa using h1
  by_cases h2:n=1
  ·subst h2
   rw[vG (by omega)];go_enter func157,ntmps157;go_wp2;go_ret;exact⟨rfl,rfl⟩
  ·have h2':(n == 1)=false:=by simpa using h2
   rw[nV (by omega)];go_enter func157,ntmps157;go_wp2;go_ret;exact⟨by show Ending.returned (.bool (n != 0 && n != 1))=_;simp[h1,h2],rfl⟩
theorem bpJ (B nb:Nat)(v:Value)(x:List Int)(w:World)(hx:zQ w B nb v x) :
  Calls prog 190 #[v,.func (.func 157) #[] #[]] w fun e w'=>∃ r:Int,e=.returned (.int .i64 r)/\(decide (0<=r) = !x.all vD)/\w' = w:=by
 obtain⟨a,c,rfl,hc,hl,hxx⟩:=hx;have HX:Hid (x≠[]->∃ b o,a=some ⟨b,o,none⟩/\b<B/\b≠nb/\∀ i z,x[i]? = some z->w.cell? ⟨b,o+i,none⟩=some (.int .i64 z)):=hxx;clear hxx;go_enter func190,ntmps190;go_wp2
 go_loop [8] (fun s=>∃ i:Nat,s=.int .i64 (i:Int)/\i<=x.length/\(x.take i).all vD=true) (fun s=>x.length - (intOf s).toNat)
 case atStart=>exact⟨0,rfl,nQ _,by simp⟩
 case round =>
  obtain⟨i,rfl,hix,hall⟩:=hrel;have HA:Hid ((x.take i).all vD=true):=hall;clear hall;by_cases h1:i<x.length
  ·obtain⟨b,o,rfl,hb,hn,hcell⟩:=HX.out (ne_of_lt h1)
   obtain⟨z,hz⟩:=wX h1;have cx1:=hcell i z hz;have HZ:Hid (x[i]? = some z):=hz;clear hcell HX hz;cases hk:vD z with
   | true =>
    have hk':Hid (vD z=true):=hk;clear hk;have kc:=lW z w;rw[hk'.out] at kc;go_wp2_with (go_at_call 157;refine kc.mono ?_;rintro e w' ⟨rfl,rfl⟩)
    go_round
    case rel=>exact⟨i+1,by go_num,h1,by rw[iS HZ.out,HA.out,hk'.out];rfl⟩
    case measure=>simp[intOf];omega
   | false =>
    have hk':Hid (vD z=false):=hk;clear hk;have kc:=lW z w;rw[hk'.out] at kc;go_wp2_with (go_at_call 157;refine kc.mono ?_;rintro e w' ⟨rfl,rfl⟩);go_ret;exact⟨_,rfl,by rw[lS HZ.out hk'.out];simp,rfl⟩
  ·have hi:i=x.length:=by omega
   have hA:x.all vD=true:=by have:=HA.out;rw[hi,wH] at this;exact this
   have HA2:Hid (x.all vD=true):=hA;clear hA HX;go_wp2;go_ret;exact⟨_,rfl,by rw[HA2.out];simp,rfl⟩
theorem mW (B nb:Nat)(v:Value)(x:List Int)(w:World)(hx:zQ w B nb v x)(r:Bool)(hr:x.all vD=r) :
  Calls prog 156 #[v,.func (.func 157) #[] #[]] w fun e w'=>e=.returned (.bool (!r))/\w' = w:=by
 subst hr;have HX:Hid (zQ w B nb v x):=hx;obtain⟨a,c,rfl,_⟩:=hx;go_enter func156,ntmps156;go_wp2_with (go_at_call 190;refine(bpJ B nb _ x _ HX.out).mono ?_;rintro e w' ⟨r,rfl,hr,rfl⟩);go_ret;exact⟨oF (by rw[<-hr]),rfl⟩
theorem bqQ (B N E:Nat){S:Type}(St:World->S->Prop)(go:S->Nx)(us:S->Int)(s0:S)(sur:Option (List Int))(D:Drw N E 160 159 St go us s0 sur)(v:Value)(bits:List Int)(w:World)(hB:B<=N)(hN:N<=w.heap.size)(hs:St w s0)(hv:zQ w B E v bits)(hbad:dY bits=false)(hlen:bits.length<=65536) :
  Calls prog 158 #[.iface 192 (.pointer (some ⟨E,0,none⟩)),v] w (bmX B E St (vF go s0 sur) s0 bits w):=by
 have hm1 : ∀ w : World, (method 475 192 (.pointer (some ⟨E, 0, none⟩)) "Sure").run prog w = .ok (159, .pointer (some ⟨E, 0, none⟩)) w := fun _ => by kernel_rfl
 have hm2 : ∀ w : World, (method 475 192 (.pointer (some ⟨E, 0, none⟩)) "Feed").run prog w = .ok (160, .pointer (some ⟨E, 0, none⟩)) w := fun _ => by kernel_rfl
 have HV:Hid (zQ w B E v bits):=hv;have HD:Hid (Drw N E 160 159 St go us s0 sur):=D;have HS:Hid (St w s0):=hs;have HBad:Hid (dY bits=false):=hbad;have lt:=D.lt;obtain⟨a,c,rfl,hc,hl,_⟩:=hv;have hb0:Below w.heap.size w (w.alloc (.cells #[.slice none 0 0,.int .i64 0] 197)):=ba _ _;have kc:=D.sure (w.alloc (.cells #[.slice none 0 0,.int .i64 0] 197)) s0 (D.keep hs (hb0.mono hN) hN) (by simp;omega);have HR0:Hid (Rv (w.alloc (.cells #[.slice none 0 0,.int .i64 0] 197)) w.heap.size (.slice none 0 0) 0):=Rv.new _ _ _ _ _ rfl;clear D hs hbad hb0;go_enter func158,ntmps158;go_wp2_with fail;refine kc.mono ?_;rintro e w1 ⟨hb1,hs0,hs1⟩;clear kc;have hz1:w.heap.size+1<=w1.heap.size:=by simpa using hb1.size
 have HR:Hid (Rv w1 w.heap.size (.slice none 0 0) 0):=HR0.out.below hb1;have HG:Hid (w.grownBy w1 (some E)):=jF (bt (ba _ _) hb1);cases hsur:sur with
 | some o =>
  obtain⟨sa,sc,rfl,hI⟩:=hs1 o hsur;have HI:Hid (∀ m,m<w.heap.size+1->zQ w1 w1.heap.size m (.slice sa o.length sc) o):=fun m hm=>hI m (by simpa using hm);have HS1:Hid (St w1 s0):=HD.out.keep HS.out ((bt (ba _ _) hb1).mono hN) hN;clear hs0 hs1 hI;subst hsur;obtain⟨r0,r1,r2,r3,r4⟩:=HR.out;have ne1:¬ w.heap.size=w1.heap.size:=by omega
  go_wp2;generalize hX:((w1.setCell ⟨w.heap.size,0,none⟩ (.slice sa o.length sc)).setCell ⟨w.heap.size,1,none⟩ (.int .i64 0)).alloc (.cells #[.slice sa o.length sc,.int .i64 0] 197)=X;have hbX:Below w.heap.size w X:=hX▸bal (bs (bs (bt (ba _ _) hb1) (p:=⟨w.heap.size,0,none⟩) (vQ _) _) (p:=⟨w.heap.size,1,none⟩) (vQ _) _) _;have HRX:Rv X w.heap.size (.slice sa o.length sc) 0:=hX▸((HR.out.put _ _).alloc _)
  have HIX:Hid (∀ m,m<w.heap.size+1->zQ X X.heap.size m (.slice sa o.length sc) o):=by
   have h1:=zQ.setm (zQ.setm HI.out w.heap.size 0 (by omega) (.slice sa o.length sc)) w.heap.size 1 (by omega) (.int .i64 0);intro m hm;have h2:=h1 m hm;rw[show w1.heap.size=((w1.setCell ⟨w.heap.size,0,none⟩ (.slice sa o.length sc)).setCell ⟨w.heap.size,1,none⟩ (.int .i64 0)).heap.size by simp] at h2;rw[<-hX];exact(h2.keep (ba _ _)).mono (by simp) (.inl rfl)
  have HVX:Hid (zQ X B E (.slice a bits.length c) bits):=HV.out.at (by omega) hbX;have HSX:Hid (St X s0):=HD.out.keep HS.out (hbX.mono hN) hN;clear hX;obtain⟨x0,x1,_,_,_⟩:=HRX;refine yQ (v:=.tuple #[.agg #[.slice sa o.length sc,.int .i64 0],.slice a bits.length c,.bool true]) (by simp[results,results158,go_sem,x0,x1]) rfl ⟨jF hbX,.inr ⟨sa,sc,o,0,a,c,0,rfl,rfl,fun m hm=>HIX.out m (by omega),HVX.out,HSX.out⟩⟩
 | none =>
  have he:=hs0 hsur;subst he;subst hsur;have HS1:Hid (St w1 s0):=HD.out.keep HS.out ((bt (ba _ _) hb1).mono hN) hN;clear hs0 hs1;obtain⟨r0,r1,r2,r3,r4⟩:=HR.out;go_wp2;generalize hX:w1.alloc (.cells #[.slice none 0 0,.int .i64 0] 197)=X;have hbX:Below w.heap.size w X:=hX▸bal (bt (ba _ _) hb1) _;have HRX:Hid (Rv X w.heap.size (.slice none 0 0) 0):=hX▸HR.out.alloc _;have HSX:Hid (St X s0):=HD.out.keep HS.out (hbX.mono hN) hN;clear hX hb1 r0 r1 r2 r3 r4 HR HR0 HS1 HG hz1
  go_loopw [23] (fun iv wr=>∃ (i:Nat) (s:S),iv=.int .i64 (i:Int)/\i<=bits.length/\Hid (St wr s/\us s=i/\go s0 bits=go s (bits.drop i))/\Hid (w.grownBy wr (some E))/\Hid (Rv wr w.heap.size (.slice none 0 0) 0)) (fun iv _=>bits.length - (intOf iv).toNat)
  case atStart=>exact⟨0,s0,rfl,nQ _,⟨HSX.out,HD.out.u0,by simp⟩,jF hbX,HRX⟩
  case round =>
   obtain⟨i,s,rfl,hit,HI,HG,HR⟩:=hrel;have hz:w.heap.size+1<=wr.heap.size:=HR.out.lt;by_cases h1:i<bits.length
   ·obtain⟨b,hb⟩:=wX h1
    have HB:Hid (bits[i]? = some b):=hb;have HVr:Hid (zQ wr B E (.slice a bits.length c) bits):=HV.out.gb HG.out;obtain⟨_,_,hv',_,_,hx⟩:=HVr.out;simp only[xV] at hv';obtain⟨rfl,_,rfl⟩:=hv';obtain⟨bb,bo,rfl,hbB,hbE,hcell⟩:=hx (ne_of_lt h1);have c1:=hcell i b hb;have hbit:=bW HBad.out hb;have kc:=HD.out.feed rfl wr s b HI.out.1 (by omega) hbit (by rw[HI.out.2.1];omega);clear hb hx hcell;go_wp2_with fail;refine kc.mono ?_;rintro e w2 ⟨hg2,⟨rfl,s',h2,h3,h4⟩|⟨ra,rc,o,rfl,h2,h3,h4⟩⟩
    ·have HI2:Hid (St w2 s'/\us s' = (i+1:Nat)/\go s0 bits=go s' (bits.drop (i+1))):=⟨h2,by rw[h3,HI.out.2.1];omega,by
      rw[HI.out.2.2,zU h1,<-h4];have:=(lQ.1 HB.out).2;rw[this]⟩
     have HR2:Hid (Rv w2 w.heap.size (.slice none 0 0) 0):=HR.out.gb hg2 (by omega);have HG2:Hid (w.grownBy w2 (some E)):=cU HG.out hg2;have hz2:wr.heap.size<=w2.heap.size:=hg2.size;clear kc h2 h3 h4 hg2 HI HG HR;obtain⟨r0,r1,r2,r3,r4⟩:=HR2.out;go_wp2
     go_roundw
     case rel=>exact⟨i+1,s',by go_num,h1,⟨HD.out.keep HI2.out.1 ((ba _ _).mono (by omega)) (by omega),HI2.out.2⟩,oA HG2.out _,HR2.out.alloc _⟩
     case measure=>simp[intOf];omega
    ·have HI2:Hid (go s0 bits=some (o,(i:Int)+1,bits.drop (i+1))):=by
      have:=(lQ.1 HB.out).2;rw[Hid,HI.out.2.2,zU h1,this,h4,HI.out.2.1]
     have HS2:Hid (St w2 s0):=h3;have hu:us s=(i:Int):=HI.out.2.1;rw[hu];have HR2:Hid (Rv w2 w.heap.size (.slice none 0 0) 0):=HR.out.gb hg2 (by omega);have HG2:Hid (w.grownBy w2 (some E)):=cU HG.out hg2;have hz2:wr.heap.size<=w2.heap.size:=hg2.size;have HO:Hid (∀ m,m<wr.heap.size->zQ w2 w2.heap.size m (.slice ra o.length rc) o):=h2;have HV2:Hid (zQ w2 B E (.slice (some ⟨bb,bo,none⟩) bits.length c) bits):=HVr.out.gb hg2;clear kc h2 h3 h4 hg2 HI HG HR hu;obtain⟨r0,r1,r2,r3,r4⟩:=HR2.out;have ne1:¬ w.heap.size=w2.heap.size:=by omega
     have ne2:¬ w2.heap.size=w.heap.size:=by omega
     go_wp2
     go_region
     generalize hX:(((w2.setCell ⟨w.heap.size,0,none⟩ (.slice ra o.length rc)).setCell ⟨w.heap.size,1,none⟩ (.int .i64 ((i:Int)+1))).alloc (.cells #[.slice ra o.length rc,.int .i64 ((i:Int)+1)] 197)).drew=X;have hgX:w.grownBy X (some E):=hX▸fJ (oA (eI (eI HG2.out (p:=⟨w.heap.size,0,none⟩) (vQ _) _) (p:=⟨w.heap.size,1,none⟩) (vQ _) _) _);have hbX:Below w.heap.size w2 X:=hX▸(((((aQ w.heap.size w2).setCell (p:=⟨w.heap.size,0,none⟩) (vQ _) _).setCell (p:=⟨w.heap.size,1,none⟩) (vQ _) _).alloc (by simp;omega) _).drew);have HRX:Rv X w.heap.size (.slice ra o.length rc) ((i:Int)+1):=hX▸((HR2.out.put _ _).alloc _).drew
     have HIX:Hid (∀ m,m<w.heap.size+1->zQ X X.heap.size m (.slice ra o.length rc) o):=by
      have h1:=zQ.setm (zQ.setm (fun m hm=>HO.out m (by omega)) w.heap.size 0 (show w.heap.size<w.heap.size+1 by omega) (.slice ra o.length rc)) w.heap.size 1 (by omega) (.int .i64 ((i:Int)+1));intro m hm;have h2:=h1 m hm;rw[show w2.heap.size=((w2.setCell ⟨w.heap.size,0,none⟩ (.slice ra o.length rc)).setCell ⟨w.heap.size,1,none⟩ (.int .i64 ((i:Int)+1))).heap.size by simp] at h2;rw[<-hX];exact(h2.keep (ba _ _).drew).mono (by simp) (.inl rfl)
     have HVX:Hid (zQ X B E _ (bits.drop (i+1))):=((HV2.out.drop2 (i+1) h1).keep (hbX.mono (by omega)));have HSX:Hid (St X s0):=HD.out.keep HS2.out (hbX.mono (by omega)) (by omega);rw[vL] at HVX;clear hX;obtain⟨x0,x1,_,_,_⟩:=HRX;generalize hsl:(if c=i+1 then some (⟨bb,bo,none⟩:Addr) else some ⟨bb,bo+(i+1),none⟩)=sl at HVX ⊢;clear hsl;go_wp2
     exact yQ (v:=.tuple #[.agg #[.slice ra o.length rc,.int .i64 ((i:Int)+1)],.slice sl (bits.length - (i+1)) (c - (i+1)),.bool true]) (by simp[results,results158,go_sem,x0,x1]) rfl
      ⟨hgX,.inr ⟨ra,rc,o,_,_,_,i+1,HI2.out,by rw[vL],fun m hm=>HIX.out m (by omega),by rw[vL];exact HVX.out,HSX.out⟩⟩
   ·have HI2:Hid (go s0 bits=none):=by rw[Hid,HI.out.2.2,qD (by omega),HD.out.nil]
    have HR2:=HR.out.put (.slice none 0 0) 0;obtain⟨r0,r1,r2,r3,r4⟩:=HR.out;obtain⟨x0,x1,_,_,_⟩:=HR2;go_wp2
    exact yQ (v:=.tuple #[nH,.slice none 0 0,.bool false]) (by simp[results,results158,go_sem,x0,x1]) rfl
     ⟨eI (eI HG.out (p:=⟨w.heap.size,0,none⟩) (vQ _) _) (p:=⟨w.heap.size,1,none⟩) (vQ _) _,.inl ⟨HI2.out,rfl⟩⟩
def qY (w:World) (B nb:Nat) (v:Value) (xs:List Int):Prop:=(∃ a c,v=.slice a xs.length c)/\(xs.length<=65536->zQ w B nb v xs)
theorem qY.of {w:World}{B nb:Nat}{v:Value}{xs:List Int}(h:zQ w B nb v xs):qY w B nb v xs:=⟨let ⟨a,c,hv,_⟩:=h;⟨a,c,hv⟩,fun _=>h⟩
theorem qY.keep {w w':World}{B nb:Nat}{v:Value}{xs:List Int}(h:qY w B nb v xs)(hb:Below B w w'):qY w' B nb v xs:=⟨h.1,fun hl=>(h.2 hl).keep hb⟩
theorem qY.at {w w':World}{B nb:Nat}{v:Value}{xs:List Int}(h:qY w B nb v xs)(hB:B<=w.heap.size)(hb:Below w.heap.size w w'):qY w' B nb v xs:=⟨h.1,fun hl=>(h.2 hl).at hB hb⟩
theorem qY.mono {w:World}{B B' nb nb':Nat}{v:Value}{xs:List Int}(h:qY w B nb v xs)(hB:B<=B')(hn:nb' = nb\/B<=nb'):qY w B' nb' v xs:=⟨h.1,fun hl=>(h.2 hl).mono hB hn⟩
theorem bqX (B N E:Nat){S:Type}(St:World->S->Prop)(go:S->Nx)(us:S->Int)(s0:S)(sur:Option (List Int))(D:Drw N E 160 159 St go us s0 sur)(v:Value)(bits:List Int)(times:Int)(w:World)(hB:B<=N)(hN:N<=w.heap.size)(hs:St w s0)(hv:qY w B E v bits)(ht:-9223372036854775808<=times/\times<=9223372036854775807)(l:List Pt)(er:Int)(hr:rF (vF go s0 sur) bits times=(l,er)) :
  Calls prog 99 #[.iface 192 (.pointer (some ⟨E,0,none⟩)),v,.int .i64 times] w (bpZ E l er w):=by
 have HV0:Hid (qY w B E v bits):=hv;have HD:Hid (Drw N E 160 159 St go us s0 sur):=D;have HS:Hid (St w s0):=hs;have HR:Hid (rF (vF go s0 sur) bits times=(l,er)):=hr;have lt:=D.lt;obtain⟨⟨a,c,rfl⟩,_⟩:=hv;clear D hs hr;by_cases h1:65536<bits.length
 ·have h:=HR.out
  simp only[rF,nA,xQ h1] at h;simp at h;obtain⟨rfl,rfl⟩:=h;go_enter func99,ntmps99;go_wp2;exact yQ (v:=.tuple #[.slice none 0 0,.int .i64 5]) (by simp[results,results99,go_sem]) rfl ⟨.slice none 0 0,([]:List Tr),rfl,rfl,lH _ _,dX _ _,iG.nil _⟩
 have HV:Hid (zQ w B E (.slice a bits.length c) bits):=HV0.out.2 (by omega)
 obtain⟨hc,hl⟩:bits.length<=c/\bits.length<=1073741824:=by
  obtain⟨_,_,he,h3,h4,_⟩:=HV.out;cases he;exact⟨h3,h4⟩
 clear HV0;by_cases h2:times<0
 ·have h:=HR.out
  simp only[rF,nA,qQ h1,xQ (show times<0\/4096<times\/dY bits=true from .inl h2)] at h;simp at h;obtain⟨rfl,rfl⟩:=h;go_enter func99,ntmps99;go_wp2;exact yQ (v:=.tuple #[.slice none 0 0,.int .i64 3]) (by simp[results,results99,go_sem]) rfl ⟨.slice none 0 0,([]:List Tr),rfl,rfl,lH _ _,dX _ _,iG.nil _⟩
 by_cases h3:4096<times
 ·have h:=HR.out
  simp only[rF,nA,qQ h1,xQ (show times<0\/4096<times\/dY bits=true from .inr (.inl h3))] at h;simp at h;obtain⟨rfl,rfl⟩:=h;go_enter func99,ntmps99;go_wp2;exact yQ (v:=.tuple #[.slice none 0 0,.int .i64 3]) (by simp[results,results99,go_sem]) rfl ⟨.slice none 0 0,([]:List Tr),rfl,rfl,lH _ _,dX _ _,iG.nil _⟩
 cases hbad:dY bits with
 | true =>
  have h:=HR.out;simp only[rF,nA,qQ h1,xQ (show times<0\/4096<times\/dY bits=true from .inr (.inr hbad))] at h;simp at h;obtain⟨rfl,rfl⟩:=h;have kc:=mW B E _ bits w HV.out false (by have:=iW bits;rw[hbad] at this;simpa using this.symm);clear hbad;go_enter func99,ntmps99;go_wp2_with fail;refine kc.mono ?_;rintro e w1 ⟨rfl,rfl⟩;clear kc;go_wp2;exact yQ (v:=.tuple #[.slice none 0 0,.int .i64 3]) (by simp[results,results99,go_sem]) rfl ⟨.slice none 0 0,([]:List Tr),rfl,rfl,lH _ _,dX _ _,iG.nil _⟩
 | false =>
  have HBad:Hid (dY bits=false):=hbad;have h:=HR.out;simp only[rF,nA,qQ h1,qQ (show ¬ (times<0\/4096<times\/dY bits=true) from by simp[hbad];omega)] at h;simp at h;have HL:Hid (zF (vF go s0 sur) times.toNat bits=l):=h.1;obtain rfl:(0:Int)=er:=h.2;obtain⟨T,rfl⟩:=jG (show 0<=times by omega);rw[aL] at HL;have kc:=mW B E _ bits w HV.out true (by have:=iW bits;rw[hbad] at this;simpa using this.symm);obtain⟨i0,hi0,hz0,hz1,hz2⟩:=oY bpQ;clear hbad h HR;have hT:T<=4096:=by omega
  go_enter func99,ntmps99;go_wp2_with fail;refine kc.mono ?_;rintro e w1 ⟨rfl,rfl⟩;clear kc;go_wp2
  go_loopw [1,8] (fun bv ov wr=>∃ (j:Nat) (ds:List Tr) (a':Option Addr) (c':Nat),bv=.slice a' (bits.drop j).length c'/\Hid (zQ wr B E bv (bits.drop j))/\ds.length<=T/\Hid (eY wr w1.heap.size ov ds)/\Hid (nX w1.heap.size ds)/\Hid (St wr s0)/\Hid (w1.grownBy wr (some E))/\Hid (rd ds++zF (vF go s0 sur) (T - ds.length) (bits.drop j)=l)) (fun _ ov _=>T - slen ov)
  case atStart=>exact⟨0,[],a,c,by simp,by rw[rM];exact HV,nQ _,eY.nil _ _,nX.nil _,HS,dX _ _,by simpa [rd,Hid] using HL.out⟩
  case round =>
   obtain⟨j,ds,a',c',rfl,HVj,hdT,HW,HF,HSj,HG,HLj⟩:=hrel;have hz:=HG.out.size;have hpl:=HW.out.lt;obtain⟨pa,pc,rfl⟩:=HW.out.slice;have HNA:Hid (iG w1.heap.size (.slice pa ds.length pc) ds):=⟨fun g e=>(hpl g e).1,HF.out⟩;have hbl:(bits.drop j).length<=65536:=by simp;omega
   have HBj:Hid (dY (bits.drop j)=false):=cW HBad.out j;obtain⟨bj,hbj⟩:∃ bj,bits.drop j=bj:=⟨_,rfl⟩;rw[hbj] at hbl HBj HVj HLj ⊢;have HJ:Hid (bits.drop j=bj):=hbj;clear hbj;by_cases h4:ds.length<T
   ·have kc:=bqQ B N E St go us s0 sur HD.out (.slice a' bj.length c') bj wr hB (by omega) HSj.out HVj.out HBj.out hbl
    obtain⟨mo,hmo,hmg⟩:=bpX (n:=wr.heap.size) (fun g e=>(hpl g e).2) (by omega);go_wp2_with fail;refine kc.mono ?_;rintro e w2 ⟨hg2,⟨h5,rfl⟩|⟨ra,rc,o,k,ra',rc',j',h5,rfl,h6,h7,h8⟩⟩
    ·have HLl:Hid (rd ds=l):=by have:=HLj.out;rw[bkX h5,xD] at this;exact this
     have HW2:Hid (xX w2 w2.heap.size (.slice pa ds.length pc) ds):=(HW.out.gb hg2 (by omega) HF.out).parts (by omega);have HG2:Hid (w1.grownBy w2 (some E)):=cU HG.out hg2;clear kc hg2 h5 HW HLj;go_wp2;exact yQ (v:=.tuple #[.slice pa ds.length pc,.int .i64 0]) (by simp[results,results99,go_sem]) rfl ⟨_,ds,rfl,HLl.out,(HW2.out.keep (ba _ _)).mono (by simp),oA HG2.out _,HNA.out⟩
    ·have HW2:Hid (eY w2 w1.heap.size (.slice pa ds.length pc) ds):=HW.out.gb hg2 (by omega) HF.out
     have HG2:Hid (w1.grownBy w2 (some E)):=cU HG.out hg2
     have HL2:Hid (rd (ds++[(.slice ra o.length rc,o,k)])++zF (vF go s0 sur) (T - (ds++[((.slice ra o.length rc,o,k):Tr)]).length) (bj.drop j')=l):=by
      have:=HLj.out;rw[show T - ds.length=(T - (ds.length+1))+1 by omega,bkZ h5] at this;simpa [Hid,rd] using this
     have HF2:Hid (nX w1.heap.size (ds++[(.slice ra o.length rc,o,k)])):=HF.out.snoc (oS (w:=w2) (B:=w2.heap.size) fun m hm=>h6 m (by omega));have hzz:=hg2.size;have HI2:Hid (zQ w2 w2.heap.size mo (.slice ra o.length rc) o):=h6 mo hmo;have HV2:Hid (zQ w2 B E (.slice ra' (bj.drop j').length rc') (bj.drop j')):=h7;have HS2:Hid (St w2 s0):=h8;have HO2:Hid (eY ((w2.alloc (.cells #[.slice ra o.length rc,.int .i64 k] 197)).alloc (.cells #[.slice ra o.length rc,.int .i64 k] 197)) w1.heap.size (.slice pa ds.length pc) ds):=HW2.out.keep (bal (ba _ _) _);have HMG:Hid (∀ g,(Value.slice pa ds.length pc).ownBlock=some g->mo=g):=hmg;obtain⟨bk,hbk⟩:∃ bk,bj.drop j' = bk:=⟨_,rfl⟩;have HJ2:Hid (bk=bits.drop (j+j')):=by rw[Hid,<-hbk,<-HJ.out,List.drop_drop]
     rw[hbk] at HL2 HV2 ⊢;clear hbk kc hg2 h5 h6 h7 h8 HW HLj hmg HF HSj HVj HBj;go_wp2_with (at_builtin;refine wC _ rfl _ _ 138 rfl w1.heap.size 197 i0 (.agg #[.slice none 0 0,.int .i64 0]) 2 32 underlying138 hi0 hz0 hz1 hz2 rfl (by decide) _ _ _ rfl HO2.out.1 ⟨w2.heap.size+1,0,none⟩ 1 1 [.slice ra o.length rc,.int .i64 k] rfl ?q1 ?q2 ?q3 ?q4 ?q5 ?q6 ?_)
     case q1=>rfl
     case q2 =>
      intro j u hj
      match j,hj with
      | 0,hj=>simp at hj;subst hj;simp[go_sem,Addr.add]
      | 1,hj=>simp at hj;subst hj;simp[go_sem,Addr.add]
     case q3=>intro u hu;simp at hu;rcases hu with rfl|rfl <;> rfl
     case q4=>simp[maxLen];omega
     case q5=>omega
     case q6=>simp;omega
     intro v3 w3 hown3 hgrow hnil hat;have HW3:Hid (eY w3 w1.heap.size v3 (ds++[(.slice ra o.length rc,o,k)])):=HO2.out.app hown3 hgrow (by simpa using hat) (HI2.out.at2 (bal (ba _ _) _)) HMG.out;have hb3:Below w1.heap.size w2 w3:=(((aQ w1.heap.size w2).alloc (by omega) _).alloc (by simp;omega) _).grown hgrow (by simp;omega) (zP HO2.out.1);obtain⟨a3,c3,rfl⟩:=HW3.out.slice;have HG3:Hid (w1.grownBy w3 (some E)):=⟨hb3.os.trans HG2.out.os,hb3.tape.trans HG2.out.tape,hb3.output.trans HG2.out.output,uQ HG2.out.size hb3.size,fun q hq hne=>(hb3.block q hq).trans (HG2.out.block q hq hne)⟩;have HS3:Hid (St w3 s0):=HD.out.keep HS2.out (hb3.mono hN) (by omega);have HV3:Hid (zQ w3 B E (.slice ra' bk.length rc') bk):=HV2.out.keep (hb3.mono (by omega));clear hown3 hgrow hnil hat HO2 HW2;go_wp2
     go_roundw
     case rel=>exact⟨j+j',ds++[(.slice ra o.length rc,o,k)],ra',rc',by rw[<-HJ2.out],by rw[<-HJ2.out];exact HV3,by simp;omega,HW3,HF2,HS3,HG3,by rw[<-HJ2.out];exact HL2⟩
     case measure=>simp[slen];omega
   ·have HLl:Hid (rd ds=l):=by have:=HLj.out;rw[show T - ds.length=0 by omega] at this;simpa [Hid,zF] using this
    have HW2:Hid (xX wr wr.heap.size (.slice pa ds.length pc) ds):=HW.out.parts (by omega);clear HW HLj hpl;go_wp2;exact yQ (v:=.tuple #[.slice pa ds.length pc,.int .i64 0]) (by simp[results,results99,go_sem]) rfl ⟨_,ds,rfl,HLl.out,HW2.out,HG.out,HNA.out⟩
