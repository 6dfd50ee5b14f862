import Derived.Test.YtpmioeamdhdokaaGreatQq03
import Derived.Test.YtpmioeamdhdokaaGreatQq04
import Derived.Shelf.SlSortCmp.NoneTotal
import Derived.Shelf.RegionOpenPlain
import Derived.Deep.LoopGhost
import Derived.Lib.Walk
import Derived.Deep.RegionHeld3
open Go.Proofs.Tryz
set_option linter.unusedSimpArgs false
set_option maxHeartbeats 16000000
set_option maxRecDepth 100000
namespace Go.Proofs.YtpmioeamdhdokaaGreat
variable {w w':World} {B b base g i j n nb o:Nat} {cur:Array Value} {e:TypeId} {v:Value} {xs:List Int} {p:Addr}
section
open Go.RowKit Ds Go.Sort Go.Shelf
theorem qO:(prog.info? 3).map (fun i=>(i.zero,i.size,i.bytes))=some (some (.int .i64 0),1,8):=by kernel_rfl
theorem fM:(prog.info? 82).map (fun i=>(i.zero,i.size,i.bytes))=some (some (.agg #[.slice none 0 0,.int .i64 0]),2,32):=by kernel_rfl
def flat (ts:List Tr):List Value:=ts.flatMap fun t=>[t.1,.int .i64 t.2.2]
theorem aL (ts:List Tr):(flat ts).length=ts.length*2:=by
 induction ts with
 | nil=>rfl
 | cons t ts ih=>simp[flat] at *;omega
theorem bW (ts:List Tr)(i:Nat):(flat ts)[i*2]? = ts[i]?.map (·.1)/\(flat ts)[i*2+1]? = ts[i]?.map fun t=>.int .i64 t.2.2:=by
 induction ts generalizing i with
 | nil=>simp[flat]
 | cons t ts ih =>
  cases i with
  | zero=>simp[flat]
  | succ i =>
   have h:=ih i;have e:flat (t::ts)=t.1::.int .i64 t.2.2::flat ts:=rfl;rw[e,show(i+1)*2=i*2+1+1 by omega,show i*2+1+1+1=(i*2+1)+1+1 by omega];simpa using h
theorem dW {ts:List Tr}(h:cD w b o ts):∀ j u,(flat ts)[j]? = some u->w.cell? ⟨b,o+j,none⟩=some u:=by
 intro j u hj;have hlt:j<ts.length*2:=by rw[<-aL];exact(cQ.1 hj).1
 obtain⟨t,ht⟩:=cX (l:=ts) (i:=j / 2) (by omega);have hg:=bW ts (j / 2);rcases Nat.mod_two_eq_zero_or_one j with hm|hm
 ·have e:j=j / 2*2:=by omega
  rw[e] at hj ⊢;rw[hg.1,ht] at hj;rw[(h _ t ht).1];simpa using hj
 ·have e:j=j / 2*2+1:=by omega
  rw[e] at hj ⊢;rw[hg.2,ht] at hj;rw[<-zV,(h _ t ht).2];simpa using hj
theorem qR (h:w.heap[g]? = some (.cells cur e (0,0))):w.frozen? ⟨g,j,none⟩=false:=by
 simp[World.frozen?,h]
theorem fT {ts:List Tr}(hn:n=ts.length)(h:w.ownsRow base 82 2 v n (flat ts))(hne:v≠.slice none 0 0) :
  ∃ g cap,v=.slice (some ⟨g,0,none⟩) ts.length cap/\ts.length<=cap/\base<=g/\Row w g 0 ts:=by
 subst hn;obtain⟨_,⟨hv,_⟩|⟨g,cap,cur,hv,hb,hcur,hc,_,hsz,hx⟩⟩:=h
 ·exact absurd hv hne
 ·have hget:∀ j u,(flat ts)[j]? = some u->w.cell? ⟨g,0+j,none⟩=some u:=by
   intro j u hj;have hj2:j<ts.length*2:=by rw[<-aL];exact(cQ.1 hj).1
   have:cur[j]? = some u:=by
    rw[<-hx,xI hj2] at hj;simpa using hj
   simp[World.cell?,hcur,this]
  refine⟨g,cap,hv,hc,hb,⟨fun i t ht=>?_,fun j _=>qR hcur,(zJ.1 hcur).1⟩⟩;have hg:=bW ts i;exact⟨hget _ _ (by rw[hg.1,ht];rfl),by rw[zV];exact hget _ _ (by rw[hg.2,ht];rfl)⟩
theorem iT (hn:n=xs.length)(hl:xs.length<=1073741824)(h:w.ownsRow base 3 1 v n (xs.map (.int .i64)))(hnb:nb<base):jQ w w.heap.size nb v xs:=by
 subst hn;obtain⟨_,⟨hv,h0⟩|⟨g,cap,cur,hv,hb,hcur,hc,_,hsz,hx⟩⟩:=h
 ·obtain rfl:xs=[]:=by cases xs <;> simp_all
  exact⟨none,0,hv,vQ _,hl,fun h=>absurd rfl h⟩
 ·refine⟨_,cap,hv,hc,hl,fun _=>⟨g,0,rfl,(zJ.1 hcur).1,by omega,fun i x hi=>?_⟩⟩
  have hi2:i<xs.length:=(cQ.1 hi).1
  have:cur[i]? = some (.int .i64 x):=by
   have h1:(xs.map (Value.int .i64))[i]? = some (.int .i64 x):=by simp[hi]
   rw[<-hx,xI (by omega)] at h1;simpa using h1
  simp[World.cell?,hcur,this]
theorem xR (B nb:Nat)(v:Value)(xs:List Int)(w:World)(hB:B<=w.heap.size)(hx:jQ w B nb v xs) :
  Calls prog 107 #[v] w fun e w'=>∃ v',e=.returned v'/\(∀ m,m<w.heap.size->jQ w' w'.heap.size m v' xs)/\Below w.heap.size w w':=by
 obtain⟨a,c,rfl,hc,hl,hxx⟩:=hx;have q22:∀ (w:World) (a:Option Addr) (n c n' c':Nat),(binOp .eql 35 (.slice a n c) (.slice none n' c')).run prog w=.ok (.bool a.isNone) w:=fun w a n c n' c'=>nP w _ _ a n c n' c' underlying35;cases a with
 | none =>
  obtain rfl:xs=[]:=by
   cases xs with
   | nil=>rfl
   | cons x l=>obtain⟨b,o,h,_⟩:=hxx (by simp);cases h
  clear hxx;go_enter func107,ntmps107;go_wp2;go_ret;exact⟨_,rfl,fun m _=>⟨none,0,rfl,vQ _,by simp,fun h=>absurd rfl h⟩,aQ _ _⟩
 | some ad =>
  have A:Hid (∀ j u,(xs.map (Value.int .i64))[j]? = some u->∀ o,(w.alloc o).cell? (ad.add j)=some u):=by
   intro j u hj o;have hlt:j<xs.length:=by have:=(cQ.1 hj).1;simpa using this
   obtain⟨b,o',he,hb,_,hcell⟩:=hxx (ne_of_lt hlt);obtain⟨x,hx⟩:=cX hlt;simp only[xX] at he;subst he;rw[nU,yH _ _ _ (by simp;omega),hcell j x hx];simpa [hx] using hj
  obtain⟨i0,hi,hz0,hz1,hz2⟩:=rJ qO;clear hxx;have hnb:Hid (xs.length*8<=140737488355328/\xs.length<=maxLen):=⟨by omega,by simp[maxLen];omega⟩;go_enter func107,ntmps107;go_wp2_with (at_builtin;refine xL _ rfl _ _ 35 rfl w.heap.size 3 i0 (.int .i64 0) 1 8 underlying35 hi hz0 hz1 hz2 rfl (by decide) _ _ _ rfl (oP w #[] 0 (vQ _) (kQ _) (by simp)) ad xs.length c (xs.map (Value.int .i64)) rfl ?qc1 ?qc2 ?qc3 ?qc4 ?qc5 ?qc6 ?_)
  case qc1=>simp
  case qc2=>intro j u hj;exact A.out j u hj _
  case qc3=>intro u hu;obtain⟨x,_,rfl⟩:=wX.1 hu;rfl
  case qc4=>rw[xZ];exact hnb.out.2
  case qc5=>rw[xZ];exact hnb.out.1
  case qc6=>simp
  intro v' w1 hown hgrow hnil;go_wp2;go_ret;refine⟨v',rfl,fun m hm=>iT (xZ _) hl (by simpa using hown) hm,?_⟩;exact((aQ _ w).alloc (vQ _) _).grown hgrow (by simp) (by intro k hk;simp[Value.ownBlock] at hk;omega)
theorem cdZ (B:Nat)(v:Value)(ts:List Tr)(w:World)(hB:B<=w.heap.size)(hx:fQ w B v ts) :
  Calls prog 220 #[v] w fun e w'=>∃ v',e=.returned v'/\Below w.heap.size w w' /\
   ((ts=[]/\v' = .slice none 0 0)\/∃ g cap,v' = .slice (some ⟨g,0,none⟩) ts.length cap/\ts.length<=cap/\w.heap.size<=g/\Row w' g 0 ts):=by
 obtain⟨a,c,rfl,hc,hl,hI,hxx⟩:=hx;have q22:∀ (w:World) (a:Option Addr) (n c n' c':Nat),(binOp .eql 65 (.slice a n c) (.slice none n' c')).run prog w=.ok (.bool a.isNone) w:=fun w a n c n' c'=>nP w _ _ a n c n' c' underlying65;cases a with
 | none =>
  obtain rfl:ts=[]:=by
   cases ts with
   | nil=>rfl
   | cons x l=>obtain⟨b,o,h,_⟩:=hxx (by simp);cases h
  clear hxx hI;go_enter func220,ntmps220;go_wp2;go_ret;exact⟨_,rfl,aQ _ _,by simp⟩
 | some ad =>
  have A:Hid (∀ j u,(flat ts)[j]? = some u->∀ o,(w.alloc o).cell? (ad.add j)=some u):=by
   intro j u hj o;have hlt:j<ts.length*2:=by rw[<-aL];exact(cQ.1 hj).1
   obtain⟨b,o',he,hb,hcell⟩:=hxx (by rintro rfl;simp at hlt);simp only[xX] at he;subst he;rw[nU,yH _ _ _ (by simp;omega)];exact dW hcell j u hj
  have A1:Hid (∀ u∈flat ts,u.oneCell' = true):=by
   intro u hu;obtain⟨t,ht,hu⟩:=dN.1 hu;obtain⟨sa,sc,he,_⟩:=hI t ht;simp only[eX,zF,jF] at hu;rcases hu with rfl|rfl
   ·rw[he];rfl
   ·rfl
  obtain⟨i0,hi,hz0,hz1,hz2⟩:=rJ fM;clear hxx hI;have hnb:Hid (ts.length*32<=140737488355328/\ts.length<=maxLen):=⟨by omega,by simp[maxLen];omega⟩;go_enter func220,ntmps220;go_wp2_with (at_builtin;refine xL _ rfl _ _ 65 rfl w.heap.size 82 i0 (.agg #[.slice none 0 0,.int .i64 0]) 2 32 underlying65 hi hz0 hz1 hz2 rfl (by decide) _ _ _ rfl (oP w #[] 0 (vQ _) (kQ _) (by simp)) ad ts.length c (flat ts) rfl ?qc1 ?qc2 ?qc3 ?qc4 ?qc5 ?qc6 ?_)
  case qc1=>exact aL ts
  case qc2=>intro j u hj;exact A.out j u hj _
  case qc3=>exact A1.out
  case qc4=>rw[xZ];exact hnb.out.2
  case qc5=>rw[xZ];exact hnb.out.1
  case qc6=>simp
  intro v' w1 hown hgrow hnil;go_wp2;go_ret;refine⟨v',rfl,?_,.inr ?_⟩
  ·exact((aQ _ w).alloc (vQ _) _).grown hgrow (by simp) (by intro k hk;simp[Value.ownBlock] at hk;omega)
  ·exact fT (xZ _) (by simpa using hown) hnil
abbrev RP (w:World) (B:Nat):={ t:Tr // jQ w B B t.1 t.2.1 }
theorem eW {α:Type} [Inhabited α] (enc:α->List Value)(w:World)(B blk off m:Nat)(d:Array α)(os:Array Obj)(h:B<=blk)(hb:blk<w.heap.size):Below B w (sortWorldK enc 2 w blk off m d os):=by
 refine⟨rfl,rfl,rfl,?_,fun k hk=>?_⟩
 ·simp[sortWorldK,putRowK,putRow,mapBlock,grow]
 ·have hk2:k<w.heap.size:=by omega
  simp only[sortWorldK,putRowK,putRow,mapBlock,grow];rw[Array.getElem?_append_left (by simpa using hk2),Array.getElem?_modify,xQ (by omega)];rfl
theorem cdJ :SWO (ltOf fun x y:RP w B=>nX x.1.2.1 y.1.2.1) where
 irrefl x:=by simp[ltOf,sE]
 trans x y z h1 h2:=by
  simp only[ltOf,qY] at *
  exact uF h1 h2
 ntrans x y z h1 h2:=by
  simp only[ltOf,decide_eq_false_iff_not] at *
  intro h;rcases yT x.1.2.1 y.1.2.1 with c|c|c
  ·exact h1 c
  ·rw[<-c] at h2;exact h2 h
  ·exact h2 (uF c h)
def aI {w:World} {B:Nat} (x:RP w B):List Value:=[x.1.1,.int .i64 x.1.2.2]
theorem bI (w:World)(B nb:Nat):jQ w B nb (.slice none 0 0) []:=⟨none,0,rfl,vQ _,by simp,fun h=>absurd rfl h⟩
theorem readables {w:World}{B:Nat}:∀ {ts:List Tr},(∀ t∈ts,jQ w B B t.1 t.2.1)->∃ l:List (RP w B),l.map (·.1)=ts
 | [],_=>⟨[],rfl⟩
 | t::ts,h=>by
  obtain⟨l,hl⟩:=readables (ts:=ts) fun u hu=>h u (by simp[hu]);exact⟨⟨t,h t (by simp)⟩::l,by simp[hl]⟩
theorem ceQ (B R c:Nat)(ts:List Tr)(w:World)(hB:B<=R)(hR:Row w R 0 ts)(hI:∀ t∈ts,jQ w B B t.1 t.2.1)(hl:ts.length<=1073741824) :
  Calls prog 221 #[.slice (some ⟨R,0,none⟩) ts.length c,.func (.func 44) #[] #[]] w fun e w'=>e=.returned (.tuple #[]) /\
   ∃ us,us.Perm ts/\us.Pairwise (fun a b=>¬ tJ b.2.1 a.2.1)/\Row w' R 0 us/\Below R w w':=by
 obtain⟨l,hll⟩:=readables hI;have inst:Inhabited (RP w B):=⟨⟨(.slice none 0 0,[],0),bI w B B⟩⟩;have hlen:ts.length=l.toArray.size:=by rw[<-hll];simp
 have hget:∀ i,i<l.toArray.size->ts[i]? = some (l.toArray[i]!).1:=by
  intro i hi;rw[<-hll,dA,getElem!_pos l.toArray i hi];simp at hi;simp[hi]
 have eg:∀ args w,(callFunc 44 args).run prog w=.ok (.enter 44 args) w:=enters_of func44 (by kernel_rfl) rfl
 have hH:HoldsK aI 2 w R 0 l.toArray:=by
  intro j hj;rw[size_flatK] at hj;have h2:j / 2<l.toArray.size:=by omega
  have hc:=hR.cells _ _ (hget _ h2);refine⟨?_,hR.thaw j (by omega)⟩
  show w.cell? ⟨R,0+j,none⟩=some ((flatK aI 2 l.toArray)[j]!)
  rw[get_flatK _ _ _ _ hj];rcases Nat.mod_two_eq_zero_or_one j with hm|hm
  ·rw[hm,show 0+j=0+j / 2*2 by omega,hc.1];rfl
  ·rw[hm,show 0+j=0+j / 2*2+1 by omega,hc.2];rfl
 have hcmp:CmpLays prog 44 #[] (aI (w:=w) (B:=B)) 2 (fun x y=>nX x.1.2.1 y.1.2.1) R 0 l.toArray.size w:=by
  intro m os dk hdk x y;have hb:=eW (aI (w:=w) (B:=B)) w B R 0 m dk os hB hR.lt;have hsz:B<=(sortWorldK (aI (w:=w) (B:=B)) 2 w R 0 m dk os).heap.size:=by have:=hb.size;have:=hR.lt;omega
  refine(wN B B B x.1.1 y.1.1 x.1.2.2 y.1.2.2 x.1.2.1 y.1.2.1 _ hsz (x.2.keep hb) (y.2.keep hb) _ rfl).mono ?_;rintro e w' ⟨rfl,o1,o2,rfl⟩;exact⟨rfl,0,#[o1,o2],by rw[alloc_eq_grow,alloc_eq_grow,grow_grow];rfl⟩
 have h1:∀ x:RP w B,∀ v∈aI x,v.oneCell' = true:=by
  intro x v hv;simp only[aI,eX,zF,jF] at hv;obtain⟨sa,sc,he,_⟩:=x.2;rcases hv with rfl|rfl
  ·rw[he];rfl
  ·rfl
 have hcon:=AnyQ.slices_SortFunc Tryz.sortP 2 Tryz.isAgg82 Tryz.sizeOf82 (aI (w:=w) (B:=B)) (fun _=>rfl) h1 (fun x y=>nX x.1.2.1 y.1.2.1) cdJ 44 #[] R 0 c l.toArray w eg hcmp hH hR.lt (by omega);change Calls prog 221 _ _ _ at hcon;rw[hlen];refine hcon.mono ?_;rintro e w' ⟨rfl,d',n,os,hp,hs,rfl⟩;refine⟨rfl,d'.toList.map (·.1),?_,?_,?_,eW _ w R R 0 n d' os (vQ _) hR.lt⟩
 ·have h3:=hp.2.2
  rw[<-hll];refine List.Perm.map _ ?_;have e:l.length=d'.toList.length:=by have:=hp.1;simp at this;simp[this]
  simp at h3;rw[e,wD] at h3;exact h3
 ·rw[sC,List.pairwise_iff_getElem]
  intro i j hi hj hij;have:=hs i j (kQ _) hij (by rw[<-hp.1];simpa using hj);simp only[eP] at hi hj;rw[getElem!_pos d' i hi,getElem!_pos d' j hj] at this;simpa [ltOf] using this
 ·have hH2:HoldsK aI 2 (sortWorldK (aI (w:=w) (B:=B)) 2 w R 0 n d' os) R 0 d':=holdsK_sortWorldK_c _ _ _ _ _ _ _ _ _ hH hR.lt hp.1
  refine⟨fun i t ht=>?_,fun j hj=>?_,uX hR.lt (eW _ w R R 0 n d' os (vQ _) hR.lt).size⟩
  ·have hi:i<d'.size:=by have:=(cQ.1 ht).1;simpa using this
   have ht2:t=(d'[i]!).1:=by rw[getElem!_pos d' i hi];simp[hi] at ht;exact ht.symm
   have c0:=(hH2.cell hi (show 0<2 by decide)).1;have c1:=(hH2.cell hi (show 1<2 by decide)).1;subst ht2;exact⟨c0,c1⟩
  ·have:=(hH2 j (by rw[size_flatK];simpa using hj)).2
   exact this
end
section
open Go.RowKit Ds
abbrev no:Tr:=(.slice none 0 0,[],0)
theorem arX (w:World)(n:Nat):Row (w.alloc (.cells (madeCells #[.slice none 0 0,.int .i64 0] (n*2)) 82)) w.heap.size 0 (List.replicate n no):=by
 have hc:∀ j,j<n*2->(w.alloc (.cells (madeCells #[.slice none 0 0,.int .i64 0] (n*2)) 82)).cell? ⟨w.heap.size,j,none⟩=some (#[Value.slice none 0 0,.int .i64 0][j % 2]!):=by
  intro j hj;rw[iN _ _ _ _ rfl];simp[madeCells,hj]
 refine⟨fun i t ht=>?_,fun j _=>lE _ _ _ _ rfl,by simp⟩;have hi:i<n:=by have:=(cQ.1 ht).1;simpa using this
 obtain rfl:t=no:=by
  have:=(cQ.1 ht).2;simp at this;exact this.symm
 refine⟨?_,?_⟩
 ·rw[show 0+i*2=i*2 by omega,hc _ (by omega)];simp
 ·rw[show 0+i*2+1=i*2+1 by omega,hc _ (by omega)]
  rw[show(i*2+1) % 2=1 by omega];rfl
theorem ceX (w:World)(b o:Nat)(u v:Value):w.setCells b o [u,v]=(w.setCell ⟨b,o,none⟩ u).setCell ⟨b,o+1,none⟩ v:=rfl
theorem gM {α:Type}{l:List α}(x:α)(h:i<l.length):(l.set i x).take (i+1)=l.take i++[x]:=by
 rw[gZ,List.take_set_of_le (vQ _),fG h];rfl
theorem Row.set0 {us:List Tr}(h:Row w b 0 us)(hi:i<us.length)(s:Value)(xs:List Int)(k:Int) :
  Row ((w.setCell ⟨b,i*2,none⟩ s).setCell ⟨b,i*2+1,none⟩ (.int .i64 k)) b 0 (us.set i (s,xs,k)):=by
 have:=h.setP hi (s,xs,k);rw[ceX,xZ] at this;exact this
theorem jQ.set (h:jQ w B nb v xs)(hp:p.block=nb)(u:Value):jQ (w.setCell p u) B nb v xs:=by
 obtain⟨a,c,hv,hc,hl,hx⟩:=h;refine⟨a,c,hv,hc,hl,fun hne=>?_⟩;obtain⟨b,o,ha,hb,hn,hcell⟩:=hx hne;refine⟨b,o,ha,hb,hn,fun i x hi=>?_⟩;rw[gQ (by intro h;rw[h] at hp;exact hn hp)];exact hcell i x hi
theorem kT (us:List Tr)(i:Nat)(t:Tr):rd (us.set i t)=(rd us).set i t.2:=by simp[rd,List.map_set]
theorem jQ.at2 (h:jQ w w.heap.size nb v xs)(hb:Below w.heap.size w w'):jQ w' w'.heap.size nb v xs :=
 (h.keep hb).mono hb.size (.inl rfl)
theorem arZ (B:Nat)(v:Value)(ts:List Tr)(w:World)(hB:B<=w.heap.size)(hp:fQ w B v ts) :
  Calls prog 222 #[v] w fun e w'=>∃ v' us,e=.returned v'/\Own w' w.heap.size v' us/\rd us=rd ts/\Below w.heap.size w w'/\sQ w.heap.size us:=by
 have HP:=qQ hp;obtain⟨a,c,rfl,hc,hl,_⟩:=hp;obtain⟨i0,hi,hz0,hz1,hz2⟩:=rJ fM
 have hmk:∀ u:World,(Instr.makeSlice 66 (.int .i64 (ts.length:Int)) (.int .i64 (ts.length:Int))).run prog u =
   .ok (.slice (some ⟨u.heap.size,0,none⟩) ts.length ts.length) (u.alloc (.cells (madeCells #[.slice none 0 0,.int .i64 0] (ts.length*2)) 82)):=fun u=>by
  have h:=run_make (P:=prog) u 66 82 i0 (.agg #[.slice none 0 0,.int .i64 0]) underlying66 hi hz0 .i64 .i64 (ts.length:Int) (ts.length:Int) (by omega) (zG _) (by rw[hz2];omega) (by omega);rw[vK] at h;simpa [hz1,Value.cells] using h
 go_enter func222,ntmps222;go_wp2
 go_loopw [11] (fun s wr=>∃ (i:Nat) (us:List Tr),s=.int .i64 (i:Int)/\i<=ts.length/\us.length=ts.length/\(rd us).take i=(rd ts).take i/\Row wr w.heap.size 0 us/\(∀ t∈us,jQ wr wr.heap.size w.heap.size t.1 t.2.1)/\Below w.heap.size w wr/\Hid (sQ w.heap.size us)) (fun s _=>ts.length - (intOf s).toNat)
 case atStart =>
  refine⟨0,List.replicate ts.length no,rfl,kQ _,by simp,by simp,arX _ _,fun t ht=>?_,ba _ _,fun t ht hne=>?_⟩
  ·rw[tS ht]
   exact bI _ _ _
  ·rw[tS ht] at hne
   exact absurd rfl hne
 case round =>
  obtain⟨i,us,rfl,hit,hul,htk,hrow,hI,hbl,HFR⟩:=hrel;have HT:=qQ htk;clear htk;by_cases h1:i<ts.length
  ·obtain⟨b,o,sa,sc,xs,k,rfl,hb,hs,c1,c2,hIx⟩:=HP.out.get hB hbl h1
   have HS:=qQ hs;obtain⟨t0,ht0⟩:=cX (l:=us) (i:=i) (by omega);have r1:=hrow.cells i t0 ht0;have r2:=hrow.thaw (i*2) (by omega);have r3:=hrow.thaw (i*2+1) (by omega);have HR:=qQ hrow;have HI:=qQ hI;have HIx:=qQ hIx;have hs1:=hbl.size;have hlt:=hrow.lt;obtain⟨r4,r5⟩:=r1;simp only[xZ] at r2 r3 r4 r5;obtain⟨v0,hv0⟩:∃ v0,t0.1=v0:=⟨_,rfl⟩;rw[hv0] at r4;clear hs hrow hI hIx ht0 hv0;have r6:∀ o,(wr.alloc o).cell? ⟨w.heap.size,i*2,none⟩=some v0:=fun o=>by rw[yH _ _ _ hlt];exact r4
   have r7:∀ o,(wr.alloc o).cell? ⟨w.heap.size,i*2+1,none⟩=some (.int .i64 t0.2.2):=fun o=>by rw[yH _ _ _ hlt];exact r5
   have r8:∀ o,(wr.alloc o).frozen? ⟨w.heap.size,i*2,none⟩=false:=fun o=>by rw[(ba wr o).frozen hlt];exact r2
   have r9:∀ o,(wr.alloc o).frozen? ⟨w.heap.size,i*2+1,none⟩=false:=fun o=>by rw[(ba wr o).frozen hlt];exact r3
   go_wp2_with fail;generalize hO:Obj.cells #[Value.slice sa xs.length sc,Value.int IntKind.i64 k] 82=O;have g1:(wr.alloc O).cell? ⟨wr.heap.size,0,none⟩=some (.slice sa xs.length sc):=by rw[<-hO];simp[go_sem]
   have g2:(wr.alloc O).cell? ⟨wr.heap.size,1,none⟩=some (.int .i64 k):=by rw[<-hO];simp[go_sem]
   have g3:=r6 O;have g4:=r7 O;have g5:=r8 O;have g6:=r9 O;have g7:(wr.alloc O).heap.size=wr.heap.size+1:=by simp
   obtain⟨W,hW⟩:∃ W,wr.alloc O=W:=⟨_,rfl⟩;have HW:Hid (Below wr.heap.size wr W):=hW▸ba wr O;rw[hW] at g1 g2 g3 g4 g5 g6 g7 ⊢;clear r2 r3 r4 r5 r6 r7 r8 r9 hO hW;have HB:Below w.heap.size w W:=bt hbl HW.out;have ne1:¬ w.heap.size=wr.heap.size:=by omega
   have ne2:¬ wr.heap.size=w.heap.size:=by omega
   have lw1:w.heap.size<W.heap.size:=by omega
   have lw2:wr.heap.size<W.heap.size:=by omega
   go_region_held3 (fun w'=>Below w.heap.size w w'/\w'.cell? ⟨wr.heap.size,0,none⟩=some (.slice sa xs.length sc)/\w'.cell? ⟨wr.heap.size,1,none⟩=some (.int .i64 k))
    ((go_split_ands;refine⟨?_,?_,?_⟩ <;> first|(simp[go_sem, *];done)|(exact HB.drew)|(exact bt HB.drew hb1)|(exact bs (bs (bt HB.drew hb1) (vQ _) _) (vQ _) _)))
    ((go_at_call 107;refine(xR B B _ xs _ ?_ ?_).mono ?_;(have:=HW.out.size;show B<=W.heap.size;omega);(exact HIx.out.at (by omega) HW.out.drew);rintro x1 w1 ⟨v',rfl,hI1,hb1⟩;obtain⟨av,cv,hv1,_⟩:=hI1 0 (by show 0<W.heap.size;omega);subst hv1;obtain⟨hc1,hf1⟩:=bcell hb1;have hs1':=hb1.size;have k1:w1.cell? ⟨w.heap.size,i*2,none⟩=some v0:=(hc1 _ _ lw1).trans g3;have k2:w1.cell? ⟨w.heap.size,i*2+1,none⟩=some (.int .i64 t0.2.2):=(hc1 _ _ lw1).trans g4;have k3:w1.frozen? ⟨w.heap.size,i*2,none⟩=false:=(hf1 _ _ lw1).trans g5;have k4:w1.frozen? ⟨w.heap.size,i*2+1,none⟩=false:=(hf1 _ _ lw1).trans g6;have k5:w1.cell? ⟨wr.heap.size,0,none⟩=some (.slice sa xs.length sc):=(hc1 _ _ lw2).trans g1;have k6:w1.cell? ⟨wr.heap.size,1,none⟩=some (.int .i64 k):=(hc1 _ _ lw2).trans g2;clear hc1 hf1))
   have HB1:Below wr.heap.size wr w1:=bt HW.out.drew hb1;have HR1:=qQ (HR.out.keep HB1);have HI1:Hid (∀ t∈us,jQ w1 w1.heap.size w.heap.size t.1 t.2.1):=fun t ht=>(HI.out t ht).at2 HB1;have HV1:Hid (jQ w1 w1.heap.size w.heap.size (.slice av xs.length cv) xs):=hI1 _ lw1;have HZ1:=qQ (bt hbl HB1)
   have HFR2:Hid (sQ w.heap.size (us.set i (.slice av xs.length cv,xs,k))):=by
    intro t ht;rcases uK ht with h|rfl
    ·exact HFR.out t h
    ·exact eT (w:=w1) (B:=w1.heap.size) fun m hm=>hI1 m (by show m<W.heap.size;omega)
   clear hI1 hb1 HB1 k1 k2 k3 k4 k5 k6 g1 g2 g3 g4 g5 g6;go_wp2
   go_roundw
   case rel =>
    refine⟨i+1,us.set i (.slice av xs.length cv,xs,k),by go_num,h1,by simp[hul],?_,HR1.out.set0 (by omega) _ xs k,fun t ht=>?_,bs (bs HZ1.out (vQ _) _) (vQ _) _,HFR2⟩
    ·rw[kT,gM _ (by rw[rV];omega),HT.out,gZ,pV HS.out];rfl
    ·have hI2:jQ w1 w1.heap.size w.heap.size t.1 t.2.1:=by
      rcases uK ht with h|rfl
      ·exact HI1.out t h
      ·exact HV1.out
     have:=(hI2.set (p:=⟨w.heap.size,i*2,none⟩) rfl (.slice av xs.length cv)).set (p:=⟨w.heap.size,i*2+1,none⟩) rfl (.int .i64 k);simpa using this
   case measure=>simp[intOf];omega
  ·have hii:i=ts.length:=by omega
   have hrd:rd us=rd ts:=by have:=HT.out;rwa [uL hii,uL (by omega)] at this
   have HR:=qQ hrow;have HI:=qQ hI;have HD:=qQ hrd;have HU:=qQ hul;clear hrow hI hrd hul;go_wp2;go_ret;exact⟨.slice (some ⟨w.heap.size,0,none⟩) ts.length ts.length,us,rfl,⟨w.heap.size,0,ts.length,by rw[HU.out],by rw[HU.out];exact vQ _,by rw[HU.out];exact hl,vQ _,HR.out,HI.out⟩,HD.out,hbl,HFR.out⟩
end
end Go.Proofs.YtpmioeamdhdokaaGreat
