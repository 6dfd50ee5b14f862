import Derived.Test.YtdceajgpolckiaaGreatDoorQq03
import Derived.Test.YtdceajgpolckiaaGreatDoorQq04
import Derived.Shelf.SlSortCmp.NoneTotal
import Derived.Shelf.RegionOpenPlain
import Derived.Deep.LoopGhost
import Derived.Lib.Walk
import Derived.Deep.RegionHeld3
import Derived.ArgAppend
open Go.Proofs.Tryz
set_option linter.unusedSimpArgs false
set_option maxHeartbeats 16000000
set_option maxRecDepth 100000
namespace Go.Proofs.YtdceajgpolckiaaGreatDoor
section
open Go.RowKit Ds Go.Sort Go.Shelf
theorem wO:(prog.info? 3).map (fun i=>(i.zero,i.size,i.bytes))=some (some (.int .i64 0),1,8):=by kernel_rfl
theorem cN:(prog.info? 77).map (fun i=>(i.zero,i.size,i.bytes))=some (some (.agg #[.slice none 0 0,.int .i64 0]),2,32):=by kernel_rfl
def flat (ts:List Tr):List Value:=ts.flatMap fun t=>[t.1,.int .i64 t.2.2]
theorem dI (ts:List Tr):(flat ts).length=ts.length*2:=by
 induction ts with
 | nil=>rfl
 | cons t ts ih=>simp[flat] at *;omega
theorem pS (ts:List Tr)(i:Nat):(flat ts)[i*2]? = ts[i]?.map (·.1)/\(flat ts)[i*2+1]? = ts[i]?.map fun t=>.int .i64 t.2.2:=by
 induction ts generalizing i with
 | nil=>simp[flat]
 | cons t ts ih =>
  cases i with
  | zero=>simp[flat]
  | succ i =>
   have h:=ih i;have e:flat (t::ts)=t.1::.int .i64 t.2.2::flat ts:=rfl;rw[e,show(i+1)*2=i*2+1+1 by omega,show i*2+1+1+1=(i*2+1)+1+1 by omega];simpa using h
theorem rS {w:World}{b o:Nat}{ts:List Tr}(h:jD w b o ts):∀ j u,(flat ts)[j]? = some u->w.cell? ⟨b,o+j,none⟩=some u:=by
 intro j u hj;have hlt:j<ts.length*2:=by rw[<-dI];exact(lQ.1 hj).1
 obtain⟨t,ht⟩:=wX (l:=ts) (i:=j / 2) (by omega);have hg:=pS ts (j / 2);rcases Nat.mod_two_eq_zero_or_one j with hm|hm
 ·have e:j=j / 2*2:=by omega
  rw[e] at hj ⊢;rw[hg.1,ht] at hj;rw[(h _ t ht).1];simpa using hj
 ·have e:j=j / 2*2+1:=by omega
  rw[e] at hj ⊢;rw[hg.2,ht] at hj;rw[<-aG,(h _ t ht).2];simpa using hj
theorem dN {w:World}{g j:Nat}{cur:Array Value}{e:TypeId}(h:w.heap[g]? = some (.cells cur e (0,0))):w.frozen? ⟨g,j,none⟩=false:=by
 simp[World.frozen?,h]
theorem sS {w:World}{base:Nat}{v:Value}{ts:List Tr}{n:Nat}(hn:n=ts.length)(h:w.ownsRow base 77 2 v n (flat ts))(hne:v≠.slice none 0 0) :
  ∃ g cap,v=.slice (some ⟨g,0,none⟩) ts.length cap/\ts.length<=cap/\base<=g/\Row w g 0 ts:=by
 subst hn;obtain⟨_,⟨hv,_⟩|⟨g,cap,cur,hv,hb,hcur,hc,_,hsz,hx⟩⟩:=h
 ·exact absurd hv hne
 ·have hget:∀ j u,(flat ts)[j]? = some u->w.cell? ⟨g,0+j,none⟩=some u:=by
   intro j u hj;have hj2:j<ts.length*2:=by rw[<-dI];exact(lQ.1 hj).1
   have:cur[j]? = some u:=by
    rw[<-hx,jI hj2] at hj;simpa using hj
   simp[World.cell?,hcur,this]
  refine⟨g,cap,hv,hc,hb,⟨fun i t ht=>?_,fun j _=>dN hcur,(jU.1 hcur).1⟩⟩;have hg:=pS ts i;exact⟨hget _ _ (by rw[hg.1,ht];rfl),by rw[aG];exact hget _ _ (by rw[hg.2,ht];rfl)⟩
theorem tS {w:World}{base nb:Nat}{v:Value}{xs:List Int}{n:Nat}(hn:n=xs.length)(hl:xs.length<=1073741824)(h:w.ownsRow base 3 1 v n (xs.map (.int .i64)))(hnb:nb<base):zQ w w.heap.size nb v xs:=by
 subst hn;obtain⟨_,⟨hv,h0⟩|⟨g,cap,cur,hv,hb,hcur,hc,_,hsz,hx⟩⟩:=h
 ·obtain rfl:xs=[]:=by cases xs <;> simp_all
  exact⟨none,0,hv,vQ _,hl,fun h=>absurd rfl h⟩
 ·refine⟨_,cap,hv,hc,hl,fun _=>⟨g,0,rfl,(jU.1 hcur).1,by omega,fun i x hi=>?_⟩⟩
  have hi2:i<xs.length:=(lQ.1 hi).1
  have:cur[i]? = some (.int .i64 x):=by
   have h1:(xs.map (Value.int .i64))[i]? = some (.int .i64 x):=by simp[hi]
   rw[<-hx,jI (by omega)] at h1;simpa using h1
  simp[World.cell?,hcur,this]
theorem eN (B nb:Nat)(v:Value)(xs:List Int)(w:World)(hB:B<=w.heap.size)(hx:zQ w B nb v xs) :
  Calls prog 92 #[v] w fun e w'=>∃ v',e=.returned v'/\(∀ m,m<w.heap.size->zQ w' w'.heap.size m v' xs)/\Below w.heap.size w w':=by
 obtain⟨a,c,rfl,hc,hl,hxx⟩:=hx;have q22:∀ (w:World) (a:Option Addr) (n c n' c':Nat),(binOp .eql 37 (.slice a n c) (.slice none n' c')).run prog w=.ok (.bool a.isNone) w:=fun w a n c n' c'=>uN w _ _ a n c n' c' underlying37;cases a with
 | none =>
  obtain rfl:xs=[]:=by
   cases xs with
   | nil=>rfl
   | cons x l=>obtain⟨b,o,h,_⟩:=hxx (by simp);cases h
  clear hxx;go_enter func92,ntmps92;go_wp2;go_ret;exact⟨_,rfl,fun m _=>⟨none,0,rfl,vQ _,by simp,fun h=>absurd rfl h⟩,aQ _ _⟩
 | some ad =>
  have A:Hid (∀ j u,(xs.map (Value.int .i64))[j]? = some u->∀ o,(w.alloc o).cell? (ad.add j)=some u):=by
   intro j u hj o;have hlt:j<xs.length:=by have:=(lQ.1 hj).1;simpa using this
   obtain⟨b,o',he,hb,_,hcell⟩:=hxx (ne_of_lt hlt);obtain⟨x,hx⟩:=wX hlt;simp only[vX] at he;subst he;rw[iA,gH _ _ _ (by simp;omega),hcell j x hx];simpa [hx] using hj
  obtain⟨i0,hi,hz0,hz1,hz2⟩:=oY wO;clear hxx;have hnb:Hid (xs.length*8<=140737488355328/\xs.length<=maxLen):=⟨by omega,by simp[maxLen];omega⟩;go_enter func92,ntmps92;go_wp2_with (at_builtin;refine vK _ rfl _ _ 37 rfl w.heap.size 3 i0 (.int .i64 0) 1 8 underlying37 hi hz0 hz1 hz2 rfl (by decide) _ _ _ rfl (aN w #[] 0 (vQ _) (nQ _) (by simp)) ad xs.length c (xs.map (Value.int .i64)) rfl ?qc1 ?qc2 ?qc3 ?qc4 ?qc5 ?qc6 ?_)
  case qc1=>simp
  case qc2=>intro j u hj;exact A.out j u hj _
  case qc3=>intro u hu;obtain⟨x,_,rfl⟩:=tZ.1 hu;rfl
  case qc4=>rw[jZ];exact hnb.out.2
  case qc5=>rw[jZ];exact hnb.out.1
  case qc6=>simp
  intro v' w1 hown hgrow hnil;go_wp2;go_ret;refine⟨v',rfl,fun m hm=>tS (jZ _) hl (by simpa using hown) hm,?_⟩;exact((aQ _ w).alloc (vQ _) _).grown hgrow (by simp) (by intro k hk;simp[Value.ownBlock] at hk;omega)
theorem bdX (B:Nat)(v:Value)(ts:List Tr)(w:World)(hB:B<=w.heap.size)(hx:xX w B v ts) :
  Calls prog 176 #[v] w fun e w'=>∃ v',e=.returned v'/\Below w.heap.size w w' /\
   ((ts=[]/\v' = .slice none 0 0)\/∃ g cap,v' = .slice (some ⟨g,0,none⟩) ts.length cap/\ts.length<=cap/\w.heap.size<=g/\Row w' g 0 ts):=by
 obtain⟨a,c,rfl,hc,hl,hI,hxx⟩:=hx;have q22:∀ (w:World) (a:Option Addr) (n c n' c':Nat),(binOp .eql 60 (.slice a n c) (.slice none n' c')).run prog w=.ok (.bool a.isNone) w:=fun w a n c n' c'=>uN w _ _ a n c n' c' underlying60;cases a with
 | none =>
  obtain rfl:ts=[]:=by
   cases ts with
   | nil=>rfl
   | cons x l=>obtain⟨b,o,h,_⟩:=hxx (by simp);cases h
  clear hxx hI;go_enter func176,ntmps176;go_wp2;go_ret;exact⟨_,rfl,aQ _ _,by simp⟩
 | some ad =>
  have A:Hid (∀ j u,(flat ts)[j]? = some u->∀ o,(w.alloc o).cell? (ad.add j)=some u):=by
   intro j u hj o;have hlt:j<ts.length*2:=by rw[<-dI];exact(lQ.1 hj).1
   obtain⟨b,o',he,hb,hcell⟩:=hxx (by rintro rfl;simp at hlt);simp only[vX] at he;subst he;rw[iA,gH _ _ _ (by simp;omega)];exact rS hcell j u hj
  have A1:Hid (∀ u∈flat ts,u.oneCell' = true):=by
   intro u hu;obtain⟨t,ht,hu⟩:=pM.1 hu;obtain⟨sa,sc,he,_⟩:=hI t ht;simp only[yX,jJ,vJ] at hu;rcases hu with rfl|rfl
   ·rw[he];rfl
   ·rfl
  obtain⟨i0,hi,hz0,hz1,hz2⟩:=oY cN;clear hxx hI;have hnb:Hid (ts.length*32<=140737488355328/\ts.length<=maxLen):=⟨by omega,by simp[maxLen];omega⟩;go_enter func176,ntmps176;go_wp2_with (at_builtin;refine vK _ rfl _ _ 60 rfl w.heap.size 77 i0 (.agg #[.slice none 0 0,.int .i64 0]) 2 32 underlying60 hi hz0 hz1 hz2 rfl (by decide) _ _ _ rfl (aN w #[] 0 (vQ _) (nQ _) (by simp)) ad ts.length c (flat ts) rfl ?qc1 ?qc2 ?qc3 ?qc4 ?qc5 ?qc6 ?_)
  case qc1=>exact dI ts
  case qc2=>intro j u hj;exact A.out j u hj _
  case qc3=>exact A1.out
  case qc4=>rw[jZ];exact hnb.out.2
  case qc5=>rw[jZ];exact hnb.out.1
  case qc6=>simp
  intro v' w1 hown hgrow hnil;go_wp2;go_ret;refine⟨v',rfl,?_,.inr ?_⟩
  ·exact((aQ _ w).alloc (vQ _) _).grown hgrow (by simp) (by intro k hk;simp[Value.ownBlock] at hk;omega)
  ·exact sS (jZ _) (by simpa using hown) hnil
abbrev RP (w:World) (B:Nat):={ t:Tr // zQ w B B t.1 t.2.1 }
theorem wS {α:Type} [Inhabited α] (enc:α->List Value)(w:World)(B blk off m:Nat)(d:Array α)(os:Array Obj)(h:B<=blk)(hb:blk<w.heap.size):Below B w (sortWorldK enc 2 w blk off m d os):=by
 refine⟨rfl,rfl,rfl,?_,fun k hk=>?_⟩
 ·simp[sortWorldK,putRowK,putRow,mapBlock,grow]
 ·have hk2:k<w.heap.size:=by omega
  simp only[sortWorldK,putRowK,putRow,mapBlock,grow];rw[Array.getElem?_append_left (by simpa using hk2),Array.getElem?_modify,qQ (by omega)];rfl
theorem bdZ {w:World}{B:Nat}:SWO (ltOf fun x y:RP w B=>lZ x.1.2.1 y.1.2.1) where
 irrefl x:=by simp[ltOf,tR]
 trans x y z h1 h2:=by
  simp only[ltOf,oV] at *
  exact fL h1 h2
 ntrans x y z h1 h2:=by
  simp only[ltOf,decide_eq_false_iff_not] at *
  intro h;rcases pO x.1.2.1 y.1.2.1 with c|c|c
  ·exact h1 c
  ·rw[<-c] at h2;exact h2 h
  ·exact h2 (fL c h)
def pF {w:World} {B:Nat} (x:RP w B):List Value:=[x.1.1,.int .i64 x.1.2.2]
theorem pE (w:World)(B nb:Nat):zQ w B nb (.slice none 0 0) []:=⟨none,0,rfl,vQ _,by simp,fun h=>absurd rfl h⟩
theorem readables {w:World}{B:Nat}:∀ {ts:List Tr},(∀ t∈ts,zQ w B B t.1 t.2.1)->∃ l:List (RP w B),l.map (·.1)=ts
 | [],_=>⟨[],rfl⟩
 | t::ts,h=>by
  obtain⟨l,hl⟩:=readables (ts:=ts) fun u hu=>h u (by simp[hu]);exact⟨⟨t,h t (by simp)⟩::l,by simp[hl]⟩
theorem bdJ (B R c:Nat)(ts:List Tr)(w:World)(hB:B<=R)(hR:Row w R 0 ts)(hI:∀ t∈ts,zQ w B B t.1 t.2.1)(hl:ts.length<=1073741824) :
  Calls prog 177 #[.slice (some ⟨R,0,none⟩) ts.length c,.func (.func 37) #[] #[]] w fun e w'=>e=.returned (.tuple #[]) /\
   ∃ us,us.Perm ts/\us.Pairwise (fun a b=>¬ cY b.2.1 a.2.1)/\Row w' R 0 us/\Below R w w':=by
 obtain⟨l,hll⟩:=readables hI;have inst:Inhabited (RP w B):=⟨⟨(.slice none 0 0,[],0),pE w B B⟩⟩;have hlen:ts.length=l.toArray.size:=by rw[<-hll];simp
 have hget:∀ i,i<l.toArray.size->ts[i]? = some (l.toArray[i]!).1:=by
  intro i hi;rw[<-hll,xA,getElem!_pos l.toArray i hi];simp at hi;simp[hi]
 have eg:∀ args w,(callFunc 37 args).run prog w=.ok (.enter 37 args) w:=enters_of func37 (by kernel_rfl) rfl
 have hH:HoldsK pF 2 w R 0 l.toArray:=by
  intro j hj;rw[size_flatK] at hj;have h2:j / 2<l.toArray.size:=by omega
  have hc:=hR.cells _ _ (hget _ h2);refine⟨?_,hR.thaw j (by omega)⟩
  show w.cell? ⟨R,0+j,none⟩=some ((flatK pF 2 l.toArray)[j]!)
  rw[get_flatK _ _ _ _ hj];rcases Nat.mod_two_eq_zero_or_one j with hm|hm
  ·rw[hm,show 0+j=0+j / 2*2 by omega,hc.1];rfl
  ·rw[hm,show 0+j=0+j / 2*2+1 by omega,hc.2];rfl
 have hcmp:CmpLays prog 37 #[] (pF (w:=w) (B:=B)) 2 (fun x y=>lZ x.1.2.1 y.1.2.1) R 0 l.toArray.size w:=by
  intro m os dk hdk x y;have hb:=wS (pF (w:=w) (B:=B)) w B R 0 m dk os hB hR.lt;have hsz:B<=(sortWorldK (pF (w:=w) (B:=B)) 2 w R 0 m dk os).heap.size:=by have:=hb.size;have:=hR.lt;omega
  refine(kL B B B x.1.1 y.1.1 x.1.2.2 y.1.2.2 x.1.2.1 y.1.2.1 _ hsz (x.2.keep hb) (y.2.keep hb) _ rfl).mono ?_;rintro e w' ⟨rfl,o1,o2,rfl⟩;exact⟨rfl,0,#[o1,o2],by rw[alloc_eq_grow,alloc_eq_grow,grow_grow];rfl⟩
 have h1:∀ x:RP w B,∀ v∈pF x,v.oneCell' = true:=by
  intro x v hv;simp only[pF,yX,jJ,vJ] at hv;obtain⟨sa,sc,he,_⟩:=x.2;rcases hv with rfl|rfl
  ·rw[he];rfl
  ·rfl
 have hcon:=AnyQ.slices_SortFunc Tryz.sortP 2 Tryz.isAgg77 Tryz.sizeOf77 (pF (w:=w) (B:=B)) (fun _=>rfl) h1 (fun x y=>lZ x.1.2.1 y.1.2.1) bdZ 37 #[] R 0 c l.toArray w eg hcmp hH hR.lt (by omega);change Calls prog 177 _ _ _ at hcon;rw[hlen];refine hcon.mono ?_;rintro e w' ⟨rfl,d',n,os,hp,hs,rfl⟩;refine⟨rfl,d'.toList.map (·.1),?_,?_,?_,wS _ w R R 0 n d' os (vQ _) hR.lt⟩
 ·have h3:=hp.2.2
  rw[<-hll];refine List.Perm.map _ ?_;have e:l.length=d'.toList.length:=by have:=hp.1;simp at this;simp[this]
  simp at h3;rw[e,wH] at h3;exact h3
 ·rw[List.pairwise_map,List.pairwise_iff_getElem]
  intro i j hi hj hij;have:=hs i j (nQ _) hij (by rw[<-hp.1];simpa using hj);simp only[qN] at hi hj;rw[getElem!_pos d' i hi,getElem!_pos d' j hj] at this;simpa [ltOf] using this
 ·have hH2:HoldsK pF 2 (sortWorldK (pF (w:=w) (B:=B)) 2 w R 0 n d' os) R 0 d':=holdsK_sortWorldK_c _ _ _ _ _ _ _ _ _ hH hR.lt hp.1
  refine⟨fun i t ht=>?_,fun j hj=>?_,qX hR.lt (wS _ w R R 0 n d' os (vQ _) hR.lt).size⟩
  ·have hi:i<d'.size:=by have:=(lQ.1 ht).1;simpa using this
   have ht2:t=(d'[i]!).1:=by rw[getElem!_pos d' i hi];simp[hi] at ht;exact ht.symm
   have c0:=(hH2.cell hi (show 0<2 by decide)).1;have c1:=(hH2.cell hi (show 1<2 by decide)).1;subst ht2;exact⟨c0,c1⟩
  ·have:=(hH2 j (by rw[size_flatK];simpa using hj)).2
   exact this
end
section
open Go.RowKit Ds
abbrev no:Tr:=(.slice none 0 0,[],0)
theorem beQ (w:World)(n:Nat):Row (w.alloc (.cells (madeCells #[.slice none 0 0,.int .i64 0] (n*2)) 77)) w.heap.size 0 (List.replicate n no):=by
 have hc:∀ j,j<n*2->(w.alloc (.cells (madeCells #[.slice none 0 0,.int .i64 0] (n*2)) 77)).cell? ⟨w.heap.size,j,none⟩=some (#[Value.slice none 0 0,.int .i64 0][j % 2]!):=by
  intro j hj;rw[yK _ _ _ _ rfl];simp[madeCells,hj]
 refine⟨fun i t ht=>?_,fun j _=>pR _ _ _ _ rfl,by simp⟩;have hi:i<n:=by have:=(lQ.1 ht).1;simpa using this
 obtain rfl:t=no:=by
  have:=(lQ.1 ht).2;simp at this;exact this.symm
 refine⟨?_,?_⟩
 ·rw[show 0+i*2=i*2 by omega,hc _ (by omega)];simp
 ·rw[show 0+i*2+1=i*2+1 by omega,hc _ (by omega)]
  rw[show(i*2+1) % 2=1 by omega];rfl
theorem beX (w:World)(b o:Nat)(u v:Value):w.setCells b o [u,v]=(w.setCell ⟨b,o,none⟩ u).setCell ⟨b,o+1,none⟩ v:=rfl
theorem lL {α:Type}{l:List α}{i:Nat}(x:α)(h:i<l.length):(l.set i x).take (i+1)=l.take i++[x]:=by
 rw[kZ,List.take_set_of_le (vQ _),lA h];rfl
theorem Row.set0 {w:World}{b:Nat}{us:List Tr}(h:Row w b 0 us){i:Nat}(hi:i<us.length)(s:Value)(xs:List Int)(k:Int) :
  Row ((w.setCell ⟨b,i*2,none⟩ s).setCell ⟨b,i*2+1,none⟩ (.int .i64 k)) b 0 (us.set i (s,xs,k)):=by
 have:=h.setP hi (s,xs,k);rw[beX,jZ] at this;exact this
theorem zQ.set {w:World}{B nb:Nat}{v:Value}{xs:List Int}(h:zQ w B nb v xs){p:Addr}(hp:p.block=nb)(u:Value):zQ (w.setCell p u) B nb v xs:=by
 obtain⟨a,c,hv,hc,hl,hx⟩:=h;refine⟨a,c,hv,hc,hl,fun hne=>?_⟩;obtain⟨b,o,ha,hb,hn,hcell⟩:=hx hne;refine⟨b,o,ha,hb,hn,fun i x hi=>?_⟩;rw[rQ (by intro h;rw[h] at hp;exact hn hp)];exact hcell i x hi
theorem qT (us:List Tr)(i:Nat)(t:Tr):rd (us.set i t)=(rd us).set i t.2:=by simp[rd,List.map_set]
theorem zQ.at2 {w w':World}{nb:Nat}{v:Value}{xs:List Int}(h:zQ w w.heap.size nb v xs)(hb:Below w.heap.size w w'):zQ w' w'.heap.size nb v xs :=
 (h.keep hb).mono hb.size (.inl rfl)
theorem rE (B:Nat)(v:Value)(ts:List Tr)(w:World)(hB:B<=w.heap.size)(hp:xX w B v ts) :
  Calls prog 178 #[v] w fun e w'=>∃ v' us,e=.returned v'/\Own w' w.heap.size v' us/\rd us=rd ts/\Below w.heap.size w w'/\nX w.heap.size us:=by
 have HP:Hid (xX w B v ts):=hp;obtain⟨a,c,rfl,hc,hl,_⟩:=hp;obtain⟨i0,hi,hz0,hz1,hz2⟩:=oY cN
 have hmk:∀ u:World,(Instr.makeSlice 61 (.int .i64 (ts.length:Int)) (.int .i64 (ts.length:Int))).run prog u =
   .ok (.slice (some ⟨u.heap.size,0,none⟩) ts.length ts.length) (u.alloc (.cells (madeCells #[.slice none 0 0,.int .i64 0] (ts.length*2)) 77)):=fun u=>by
  have h:=run_make (P:=prog) u 61 77 i0 (.agg #[.slice none 0 0,.int .i64 0]) underlying61 hi hz0 .i64 .i64 (ts.length:Int) (ts.length:Int) (by omega) (zI _) (by rw[hz2];omega) (by omega);rw[aL] at h;simpa [hz1,Value.cells] using h
 go_enter func178,ntmps178;go_wp2
 go_loopw [11] (fun s wr=>∃ (i:Nat) (us:List Tr),s=.int .i64 (i:Int)/\i<=ts.length/\us.length=ts.length/\(rd us).take i=(rd ts).take i/\Row wr w.heap.size 0 us/\(∀ t∈us,zQ wr wr.heap.size w.heap.size t.1 t.2.1)/\Below w.heap.size w wr/\Hid (nX w.heap.size us)) (fun s _=>ts.length - (intOf s).toNat)
 case atStart =>
  refine⟨0,List.replicate ts.length no,rfl,nQ _,by simp,by simp,beQ _ _,fun t ht=>?_,ba _ _,fun t ht hne=>?_⟩
  ·rw[nR ht]
   exact pE _ _ _
  ·rw[nR ht] at hne
   exact absurd rfl hne
 case round =>
  obtain⟨i,us,rfl,hit,hul,htk,hrow,hI,hbl,HFR⟩:=hrel;have HT:Hid ((rd us).take i=(rd ts).take i):=htk;clear htk;by_cases h1:i<ts.length
  ·obtain⟨b,o,sa,sc,xs,k,rfl,hb,hs,c1,c2,hIx⟩:=HP.out.get hB hbl h1
   have HS:Hid (ts[i]? = some (.slice sa xs.length sc,xs,k)):=hs;obtain⟨t0,ht0⟩:=wX (l:=us) (i:=i) (by omega);have r1:=hrow.cells i t0 ht0;have r2:=hrow.thaw (i*2) (by omega);have r3:=hrow.thaw (i*2+1) (by omega);have HR:Hid (Row wr w.heap.size 0 us):=hrow;have HI:Hid (∀ t∈us,zQ wr wr.heap.size w.heap.size t.1 t.2.1):=hI;have HIx:Hid (zQ wr B B (.slice sa xs.length sc) xs):=hIx;have hs1:=hbl.size;have hlt:=hrow.lt;obtain⟨r4,r5⟩:=r1;simp only[jZ] at r2 r3 r4 r5;obtain⟨v0,hv0⟩:∃ v0,t0.1=v0:=⟨_,rfl⟩;rw[hv0] at r4;clear hs hrow hI hIx ht0 hv0;have r6:∀ o,(wr.alloc o).cell? ⟨w.heap.size,i*2,none⟩=some v0:=fun o=>by rw[gH _ _ _ hlt];exact r4
   have r7:∀ o,(wr.alloc o).cell? ⟨w.heap.size,i*2+1,none⟩=some (.int .i64 t0.2.2):=fun o=>by rw[gH _ _ _ hlt];exact r5
   have r8:∀ o,(wr.alloc o).frozen? ⟨w.heap.size,i*2,none⟩=false:=fun o=>by rw[(ba wr o).frozen hlt];exact r2
   have r9:∀ o,(wr.alloc o).frozen? ⟨w.heap.size,i*2+1,none⟩=false:=fun o=>by rw[(ba wr o).frozen hlt];exact r3
   go_wp2_with fail;generalize hO:Obj.cells #[Value.slice sa xs.length sc,Value.int IntKind.i64 k] 77=O;have g1:(wr.alloc O).cell? ⟨wr.heap.size,0,none⟩=some (.slice sa xs.length sc):=by rw[<-hO];simp[go_sem]
   have g2:(wr.alloc O).cell? ⟨wr.heap.size,1,none⟩=some (.int .i64 k):=by rw[<-hO];simp[go_sem]
   have g3:=r6 O;have g4:=r7 O;have g5:=r8 O;have g6:=r9 O;have g7:(wr.alloc O).heap.size=wr.heap.size+1:=by simp
   obtain⟨W,hW⟩:∃ W,wr.alloc O=W:=⟨_,rfl⟩;have HW:Hid (Below wr.heap.size wr W):=hW▸ba wr O;rw[hW] at g1 g2 g3 g4 g5 g6 g7 ⊢;clear r2 r3 r4 r5 r6 r7 r8 r9 hO hW;have HB:Below w.heap.size w W:=bt hbl HW.out;have ne1:¬ w.heap.size=wr.heap.size:=by omega
   have ne2:¬ wr.heap.size=w.heap.size:=by omega
   have lw1:w.heap.size<W.heap.size:=by omega
   have lw2:wr.heap.size<W.heap.size:=by omega
   go_region_held3 (fun w'=>Below w.heap.size w w'/\w'.cell? ⟨wr.heap.size,0,none⟩=some (.slice sa xs.length sc)/\w'.cell? ⟨wr.heap.size,1,none⟩=some (.int .i64 k))
    ((go_split_ands;refine⟨?_,?_,?_⟩ <;> first|(simp[go_sem, *];done)|(exact HB.drew)|(exact bt HB.drew hb1)|(exact bs (bs (bt HB.drew hb1) (vQ _) _) (vQ _) _)))
    ((go_at_call 92;refine(eN B B _ xs _ ?_ ?_).mono ?_;(have:=HW.out.size;show B<=W.heap.size;omega);(exact HIx.out.at (by omega) HW.out.drew);rintro x1 w1 ⟨v',rfl,hI1,hb1⟩;obtain⟨av,cv,hv1,_⟩:=hI1 0 (by show 0<W.heap.size;omega);subst hv1;obtain⟨hc1,hf1⟩:=bcell hb1;have hs1':=hb1.size;have k1:w1.cell? ⟨w.heap.size,i*2,none⟩=some v0:=(hc1 _ _ lw1).trans g3;have k2:w1.cell? ⟨w.heap.size,i*2+1,none⟩=some (.int .i64 t0.2.2):=(hc1 _ _ lw1).trans g4;have k3:w1.frozen? ⟨w.heap.size,i*2,none⟩=false:=(hf1 _ _ lw1).trans g5;have k4:w1.frozen? ⟨w.heap.size,i*2+1,none⟩=false:=(hf1 _ _ lw1).trans g6;have k5:w1.cell? ⟨wr.heap.size,0,none⟩=some (.slice sa xs.length sc):=(hc1 _ _ lw2).trans g1;have k6:w1.cell? ⟨wr.heap.size,1,none⟩=some (.int .i64 k):=(hc1 _ _ lw2).trans g2;clear hc1 hf1))
   have HB1:Below wr.heap.size wr w1:=bt HW.out.drew hb1;have HR1:Hid (Row w1 w.heap.size 0 us):=HR.out.keep HB1;have HI1:Hid (∀ t∈us,zQ w1 w1.heap.size w.heap.size t.1 t.2.1):=fun t ht=>(HI.out t ht).at2 HB1;have HV1:Hid (zQ w1 w1.heap.size w.heap.size (.slice av xs.length cv) xs):=hI1 _ lw1;have HZ1:Hid (Below w.heap.size w w1):=bt hbl HB1
   have HFR2:Hid (nX w.heap.size (us.set i (.slice av xs.length cv,xs,k))):=by
    intro t ht;rcases aI ht with h|rfl
    ·exact HFR.out t h
    ·exact oS (w:=w1) (B:=w1.heap.size) fun m hm=>hI1 m (by show m<W.heap.size;omega)
   clear hI1 hb1 HB1 k1 k2 k3 k4 k5 k6 g1 g2 g3 g4 g5 g6;go_wp2
   go_roundw
   case rel =>
    refine⟨i+1,us.set i (.slice av xs.length cv,xs,k),by go_num,h1,by simp[hul],?_,HR1.out.set0 (by omega) _ xs k,fun t ht=>?_,bs (bs HZ1.out (vQ _) _) (vQ _) _,HFR2⟩
    ·rw[qT,lL _ (by rw[fG];omega),HT.out,kZ,aU HS.out];rfl
    ·have hI2:zQ w1 w1.heap.size w.heap.size t.1 t.2.1:=by
      rcases aI ht with h|rfl
      ·exact HI1.out t h
      ·exact HV1.out
     have:=(hI2.set (p:=⟨w.heap.size,i*2,none⟩) rfl (.slice av xs.length cv)).set (p:=⟨w.heap.size,i*2+1,none⟩) rfl (.int .i64 k);simpa using this
   case measure=>simp[intOf];omega
  ·have hii:i=ts.length:=by omega
   have hrd:rd us=rd ts:=by have:=HT.out;rwa [cI hii,cI (by omega)] at this
   have HR:Hid (Row wr w.heap.size 0 us):=hrow;have HI:Hid (∀ t∈us,zQ wr wr.heap.size w.heap.size t.1 t.2.1):=hI;have HD:Hid (rd us=rd ts):=hrd;have HU:Hid (us.length=ts.length):=hul;clear hrow hI hrd hul;go_wp2;go_ret;exact⟨.slice (some ⟨w.heap.size,0,none⟩) ts.length ts.length,us,rfl,⟨w.heap.size,0,ts.length,by rw[HU.out],by rw[HU.out];exact vQ _,by rw[HU.out];exact hl,vQ _,HR.out,HI.out⟩,HD.out,hbl,HFR.out⟩
structure Good (K S:List Pt):Prop where
 rise:rY K
 pos:lJ K
 wts:∀ o,wt K o=wt S o
 tots:tot K=tot S
 whence:∀ q∈K,∃ s∈S,s.1=q.1
theorem Good.nil:Good [] []:=⟨List.Pairwise.nil,by intro p h;simp at h,fun _=>rfl,rfl,by intro p h;simp at h⟩
theorem Good.zero {K S:List Pt}{p:Pt}(h:Good K S)(hp:p.2=0):Good K (S++[p]):=by
 refine⟨h.rise,h.pos,fun o=>?_,?_,fun q hq=>?_⟩
 ·rw[rO,h.wts,mU,hp];simp
 ·rw[bK,h.tots,pV,hp];simp
 ·obtain⟨s,hs,e⟩:=h.whence q hq;exact⟨s,by simp[hs],e⟩
theorem Good.add {K S:List Pt}{q p:Pt}(h:Good (K++[q]) S)(hp:0<p.2)(he:q.1=p.1):Good (K++[(q.1,q.2+p.2)]) (S++[p]):=by
 have hr:=xE.1 h.rise;refine⟨xE.2 ⟨hr.1,by simp,fun a ha b hb=>?_⟩,fun r hr2=>?_,fun o=>?_,?_,fun r hr2=>?_⟩
 ·simp at hb;subst hb;exact hr.2.2 a ha q (by simp)
 ·rcases zY.1 hr2 with h1|h1
  ·exact h.pos r (by simp[h1])
  ·simp at h1;subst h1;have:=h.pos q (by simp);show 0<q.2+p.2;omega
 ·have:=h.wts o
  simp only[rO,mU,a8Q,he] at *
  split <;> simp_all <;> omega
 ·have:=h.tots
  simp only[bK,pV,a8Z] at *
  omega
 ·rcases zY.1 hr2 with h1|h1
  ·obtain⟨s,hs,e⟩:=h.whence r (by simp[h1]);exact⟨s,by simp[hs],e⟩
  ·simp at h1;subst h1;exact⟨p,by simp,he.symm⟩
theorem Good.app {K S:List Pt}{p:Pt}(h:Good K S)(hp:0<p.2)(hl:∀ q∈K,cY q.1 p.1):Good (K++[p]) (S++[p]):=by
 refine⟨xE.2 ⟨h.rise,by simp,fun a ha b hb=>?_⟩,fun r hr2=>?_,fun o=>?_,?_,fun r hr2=>?_⟩
 ·simp at hb;subst hb;exact hl a ha
 ·rcases zY.1 hr2 with h1|h1
  ·exact h.pos r h1
  ·simp at h1;subst h1;exact hp
 ·rw[rO,rO,h.wts]
 ·rw[bK,bK,h.tots]
 ·rcases zY.1 hr2 with h1|h1
  ·obtain⟨s,hs,e⟩:=h.whence r h1;exact⟨s,by simp[hs],e⟩
  ·simp at h1;subst h1;exact⟨r,by simp,rfl⟩
theorem Good.below {K S:List Pt}{q p:Pt}(h:Good (K++[q]) S)(hs:∀ s∈S,¬ cY p.1 s.1)(hne:q.1≠p.1):∀ r∈K++[q],cY r.1 p.1:=by
 have hq:cY q.1 p.1:=by
  obtain⟨s,h1,h2⟩:=h.whence q (by simp);have:=hs s h1;rw[h2] at this;rcases pO q.1 p.1 with c|c|c
  ·exact c
  ·exact absurd c hne
  ·exact absurd c this
 intro r hr;rcases zY.1 hr with h1|h1
 ·exact fL ((xE.1 h.rise).2.2 r h1 q (by simp)) hq
 ·simp at h1;subst h1;exact hq
theorem beZ {l k:List Pt}(h:l.Perm k):tot l=tot k:=by
 induction h with
 | nil=>rfl
 | cons x _ ih=>simp only[pV,ih]
 | swap x y l=>simp only[pV];omega
 | trans _ _ h1 h2=>exact h1.trans h2
theorem lJ.le_tot {l:List Pt}(h:Nn l){p:Pt}(hp:p∈l):p.2<=tot l:=by
 induction l with
 | nil=>cases hp
 | cons q l ih =>
  have h2:Nn l:=fun r hr=>h r (by simp[hr]);have h3:=h2.tot_nn;have h4:=h q (by simp);rw[pV];rcases yX.1 hp with rfl|hp
  ·omega
  ·have:=ih h2 hp;omega
theorem beJ (ts:List Tr)(i:Nat):rd (ts.take i)=(rd ts).take i:=by simp[rd,List.map_take]
theorem mH (a b:List Tr):rd (a++b)=rd a++rd b:=by simp[rd]
theorem xT {a b:List Tr}(h:a.Perm b):(rd a).Perm (rd b):=h.map _
theorem zT {α:Type}{l k:List α}{i:Nat}(h:l.drop i=k.drop i):l.drop (i+1)=k.drop (i+1):=by
 rw[<-List.drop_drop (i:=1) (j:=i),<-List.drop_drop (i:=1) (j:=i),h]
theorem jT {α:Type}{l k:List α}{i:Nat}(h:l.drop i=k.drop i):l[i]? = k[i]?:=by
 have:=congrArg (fun l=>l[0]?) h;simpa using this
theorem bfQ (p:Option Addr)(cap:Nat)(fv:Value)(w:World):Calls prog 177 #[.slice p 0 cap,fv] w fun e w'=>e=.returned (.tuple #[])/\w' = w :=
 AnyF.slices_SortFunc_none { Tryz.sortP with } p cap fv w
theorem Row.parts {w:World}{b cap:Nat}{vs:List Tr}{B:Nat}(h:Row w b 0 vs)(hB:B<=w.heap.size)(hI:∀ t∈vs,zQ w B B t.1 t.2.1){k:Nat}(hk:k<=vs.length)(hc:k<=cap)(hl:k<=1073741824) :
  xX w w.heap.size (.slice (some ⟨b,0,none⟩) k cap) (vs.take k):=by
 have e:(vs.take k).length=k:=by simp;omega
 refine⟨some ⟨b,0,none⟩,cap,by rw[e],by omega,by omega,fun t ht=>(hI t (lF ht)).mono hB (.inr (by omega)),fun _=>⟨b,0,rfl,h.lt,fun i t ht=>h.cells i t ?_⟩⟩;rw[eH] at ht;split at ht
 ·exact ht
 ·cases ht
theorem bfX (B n1 n2:Nat)(u v:Value)(k l:Int)(x y:List Int)(w:World)(hB:B<=w.heap.size)(hx:zQ w B n1 u x)(hy:zQ w B n2 v y)(r:Int)(hr:lZ x y=r) :
  Calls prog 37 #[.agg #[u,.int .i64 k],.agg #[v,.int .i64 l]] w fun e w'=>e=.returned (.int .i64 r)/\Below w.heap.size w w' :=
 (kL B n1 n2 u v k l x y w hB hx hy r hr).mono fun _ _ ⟨he,_,_,hw⟩=>⟨he,hw▸bal (ba _ _) _⟩
def sE (us:List Tr):Prop:=us.Pairwise (fun a b=>¬ cY b.2.1 a.2.1)
structure Gl (w:World) (B g cap:Nat) (us:List Tr) (i k:Nat) (vs:List Tr) (wr:World):Prop where
 ki:k<=i
 len:vs.length=us.length
 rest:vs.drop i=us.drop i
 good:Good (rd (vs.take k)) (rd (us.take i))
 row:Row wr g 0 vs
 ints:∀ t∈vs,zQ w B B t.1 t.2.1
 bel:Below w.heap.size w wr
theorem Gl.zero {w wr w':World}{B g cap:Nat}{us vs:List Tr}{i k:Nat}{t:Tr}(h:Gl w B g cap us i k vs wr)(ht:us[i]? = some t)(h0:t.2.2=0)(hb:Below wr.heap.size wr w'):Gl w B g cap us (i+1) k vs w':=by
 refine⟨by have:=h.ki;omega,h.len,zT h.rest,?_,h.row.keep hb,h.ints,bt h.bel hb⟩;rw[kZ,ht,mH];exact h.good.zero h0
theorem Gl.last {w wr:World}{B g cap:Nat}{us vs:List Tr}{i k:Nat}(h:Gl w B g cap us i (k+1) vs wr)(hi:i<=us.length) :
  ∃ q,vs[k]? = some q/\vs.take (k+1)=vs.take k++[q]:=by
 have:=h.ki;have:=h.len;obtain⟨q,hq⟩:=wX (l:=vs) (i:=k) (by omega);exact⟨q,hq,by rw[kZ,hq];rfl⟩
theorem Gl.sum {w wr:World}{B g cap:Nat}{us vs:List Tr}{i k:Nat}{t q:Tr}(h:Gl w B g cap us i (k+1) vs wr)(hn:Nn (rd us))(ht:us[i]? = some t)(hq:vs[k]? = some q)(hM:tot (rd us)<=4611686018427387904) :
  0<=q.2.2+t.2.2/\q.2.2+t.2.2<=4611686018427387904:=by
 have e:vs.take (k+1)=vs.take k++[q]:=by rw[kZ,hq];rfl
 have h1:q.2.2<=tot (rd (vs.take (k+1))):=lJ.le_tot (Nn.of_pos h.good.pos) (p:=q.2) (by rw[e,mH];simp[rd]);have h2:0<q.2.2:=h.good.pos q.2 (by rw[e,mH];simp[rd]);have h3:=h.good.tots;have h4:=mS (aU ht);have h5:=hn.tot_take_le (i+1);have h6:0<=t.2.2:=hn t.2 (uX (aU ht));rw[beJ us i] at h3;omega
theorem Gl.add {w wr w':World}{B g cap:Nat}{us vs:List Tr}{i k:Nat}{t q:Tr}(h:Gl w B g cap us i (k+1) vs wr)(hi:i<us.length)(ht:us[i]? = some t)(h0:0<t.2.2)(hq:vs[k]? = some q)(he:q.2.1=t.2.1)
  (hrow:Row w' g 0 (vs.set k (q.1,q.2.1,q.2.2+t.2.2))) (hb:Below w.heap.size w w'):Gl w B g cap us (i+1) (k+1) (vs.set k (q.1,q.2.1,q.2.2+t.2.2)) w':=by
 have hk:=h.ki;have hl:=h.len;refine⟨by omega,by simpa using hl,?_,?_,hrow,fun u hu=>?_,hb⟩
 ·rw[List.drop_set_of_lt (by omega)]
  exact zT h.rest
 ·rw[lL _ (by omega),kZ (i:=i),ht,mH,mH]
  have hg:=h.good;rw[show vs.take (k+1)=vs.take k++[q] by rw[kZ,hq];rfl,mH] at hg;exact hg.add (q:=q.2) (p:=t.2) h0 he
 ·rcases aI hu with h1|rfl
  ·exact h.ints u h1
  ·exact h.ints q (uX hq)
theorem Gl.app {w wr w':World}{B g cap:Nat}{us vs:List Tr}{i k:Nat}{t:Tr}(h:Gl w B g cap us i k vs wr)(hi:i<us.length)(hs:us.Pairwise (fun a b=>¬ cY b.2.1 a.2.1))(ht:us[i]? = some t)(h0:0<t.2.2)
  (hne:∀ q,0<k->vs[k - 1]? = some q->q.2.1≠t.2.1) (hrow:Row w' g 0 (vs.set k t)) (hb:Below w.heap.size w w'):Gl w B g cap us (i+1) (k+1) (vs.set k t) w':=by
 have hk:=h.ki;have hl:=h.len;have hi2:=(lQ.1 ht).2;refine⟨by omega,by simpa using hl,?_,?_,hrow,fun u hu=>?_,hb⟩
 ·rw[List.drop_set_of_lt (by omega)]
  exact zT h.rest
 ·rw[lL _ (by omega),kZ (i:=i),ht,mH,mH]
  refine h.good.app h0 ?_
  show ∀ q∈rd (vs.take k),cY q.1 t.2.1
  have hsort:∀ s∈rd (us.take i),¬ cY t.2.1 s.1:=by
   intro s hs2;obtain⟨u,hu,rfl⟩:=tZ.1 hs2;obtain⟨j,hj,hju⟩:=List.mem_iff_getElem.1 hu;have hj2:j<i:=by simp at hj;omega
   have:=List.pairwise_iff_getElem.1 hs j i (by omega) hi hj2;rw[hi2] at this;rw[List.getElem_take] at hju;rw[hju] at this;exact this
  cases k with
  | zero=>simp[rd]
  | succ k =>
   obtain⟨q,hq⟩:=wX (l:=vs) (i:=k) (by omega);have hg:=h.good;rw[show vs.take (k+1)=vs.take k++[q] by rw[kZ,hq];rfl,mH] at hg ⊢;exact hg.below (q:=q.2) (p:=t.2) hsort (hne q (by omega) hq)
 ·rcases aI hu with h1|rfl
  ·exact h.ints u h1
  ·refine h.ints _ (uX (i:=i) ?_)
   rw[jT h.rest];exact ht
theorem bfZ (B:Nat)(v:Value)(ts:List Tr)(w:World)(hB:B<=w.heap.size)(hp:xX w B v ts)(hn:Nn (rd ts))(hM:tot (rd ts)<=4611686018427387904)(r:List Pt)(hr:gath (rd ts)=r) :
  Calls prog 121 #[v] w fun e w'=>∃ v' us,e=.returned v'/\Own w' w.heap.size v' us/\rd us=r/\Below w.heap.size w w'/\nX w.heap.size us:=by
 have HP:Hid (xX w B v ts):=hp;obtain⟨i0,hi0,hz0,hz1,hz2⟩:=oY cN;obtain⟨a,c,rfl,hc,hl,hI,_⟩:=hp;have HH:Hid (Nn (rd ts)/\tot (rd ts)<=4611686018427387904/\gath (rd ts)=r/\∀ t∈ts,zQ w B B t.1 t.2.1):=⟨hn,hM,hr,hI⟩;clear hn hM hr hI;go_enter func121,ntmps121;go_wp2_with fail;refine(bdX B _ ts w hB HP.out).mono ?_;rintro e w1 ⟨v',rfl,hb1,⟨h0,rfl⟩|⟨g,cap,rfl,hcap,hg,hrow⟩⟩
 ·subst h0
  have hr0:r=[]:=by rw[<-HH.out.2.2.1];rfl
  have HR0:Hid (r=[]):=hr0;have kc:=fun W=>rE 0 (.slice none 0 0) [] W (nQ _) (lH W 0);clear hr0 HP HH;go_wp2_with (go_at_call 177;refine(bfQ _ _ _ _).mono ?_;rintro e w2 ⟨rfl,rfl⟩)
  go_loopw [4,16] (fun kv s wr=>kv=.slice none 0 0/\s=.int .i64 0/\wr=w2) (fun _ _ _=>0)
  case atStart=>exact⟨rfl,rfl,rfl⟩
  case round =>
   obtain⟨rfl,rfl,rfl⟩:=hrel;go_wp2_with fail;refine(kc _).mono ?_;rintro e w3 ⟨v',us,rfl,hO,hrd,hb3,hfr⟩;obtain⟨b',o',c',rfl,hO'⟩:=hO;have HO:Hid (Own w3 w.heap.size (.slice (some ⟨b',o',none⟩) us.length c') us):=Own.mono ⟨b',o',c',rfl,hO'⟩ hb1.size;have HD:Hid (rd us=r):=by rw[Hid,hrd,HR0.out];rfl
   have HB:Hid (Below w.heap.size w w3):=bt hb1 hb3;have HFR:Hid (nX w.heap.size us):=hfr.mono hb1.size;clear hO' hrd hb3 hb1 kc hfr;go_wp2;go_ret;exact⟨_,us,rfl,HO.out,HD.out,HB.out,HFR.out⟩
 have HI1:∀ t∈ts,zQ w1 B B t.1 t.2.1:=fun t ht=>(HH.out.2.2.2 t ht).at hB hb1;have hsort:=bdJ B g cap ts w1 (by omega) hrow HI1 hl;have HS:Hid (Calls prog 177 #[.slice (some ⟨g,0,none⟩) ts.length cap,.func (.func 37) #[] #[]] w1 fun e w'=>e=.returned (.tuple #[])/\∃ us,us.Perm ts/\sE us/\Row w' g 0 us/\Below g w1 w'):=hsort;clear hsort HI1 hrow;go_wp2_with fail;refine HS.out.mono ?_;rintro e w2 ⟨rfl,us,hperm,hsrt,hrow,hb2⟩;have hul:us.length=ts.length:=hperm.length_eq;have hbw:Below w.heap.size w w2:=hb1.trans (hb2.mono hg)
 have HQ:Hid (us.Perm ts/\sE us/\Nn (rd us)/\tot (rd us)<=4611686018427387904) :=
  ⟨hperm,hsrt,fun p hp=>HH.out.1 p ((xT hperm).mem_iff.1 hp),by rw[beZ (xT hperm)];exact HH.out.2.1⟩
 have HG0:Hid (Gl w B g cap us 0 0 us w2):=⟨vQ _,rfl,rfl,by simpa [rd] using Good.nil,hrow,fun t ht=>HH.out.2.2.2 t (hperm.mem_iff.1 ht),hbw⟩;rw[<-hul] at hcap hl ⊢;clear hperm hsrt hrow hb2 HS hbw HP hb1;go_wp2
 go_loopw [4,16] (fun kv s wr=>∃ (i k:Nat) (vs:List Tr),kv=.slice (some ⟨g,0,none⟩) k cap/\s=.int .i64 (i:Int)/\i<=us.length/\Gl w B g cap us i k vs wr) (fun _ s _=>us.length - (intOf s).toNat)
 case atStart=>exact⟨0,0,us,rfl,rfl,nQ _,HG0.out⟩
 case round =>
  obtain⟨i,k,vs,rfl,rfl,hiu,hG⟩:=hrel;have hki:=hG.ki;have hvl:=hG.len;have HG:Hid (Gl w B g cap us i k vs wr):=hG;have hlt:=hG.row.lt;by_cases h1:i<us.length
  ·obtain⟨⟨s,xs,kw⟩,hs⟩:=wX h1
   have hsv:vs[i]? = some (s,xs,kw):=by rw[jT hG.rest];exact hs
   obtain⟨sa,sc,he,_⟩:=hG.ints _ (uX hsv);simp only at he;subst he;obtain⟨c1,c2⟩:=hG.row.cells i _ hsv;simp only[jZ] at c1 c2;have HT:Hid (us[i]? = some (.slice sa xs.length sc,xs,kw)):=hs;have hw0:0<=kw:=HQ.out.2.2.1 (xs,kw) (uX (aU hs));clear hs hsv hG;by_cases h0:kw=0
   ·subst h0
    go_wp2
    go_roundw
    case rel=>exact⟨i+1,k,vs,rfl,by go_num,h1,HG.out.zero HT.out rfl (ba _ _)⟩
    case measure=>simp[intOf];omega
   ·have h0':(kw == 0)=false:=by simp[h0]
    have hw1:0<kw:=by omega
    obtain⟨W,hW⟩:∃ W,wr.alloc (.cells #[.slice sa xs.length sc,.int .i64 kw] 77)=W:=⟨_,rfl⟩;have HW:Hid (Below wr.heap.size wr W):=hW▸ba wr _;have hWs:W.heap.size=wr.heap.size+1:=by rw[<-hW];simp
    have p1:W.cell? ⟨wr.heap.size,0,none⟩=some (.slice sa xs.length sc):=by rw[<-hW];simp[go_sem]
    have p2:W.cell? ⟨wr.heap.size,1,none⟩=some (.int .i64 kw):=by rw[<-hW];simp[go_sem]
    have HIp:Hid (zQ w B B (.slice sa xs.length sc) xs):=HG.out.ints (.slice sa xs.length sc,xs,kw) (uX (i:=i) (by rw[jT HG.out.rest];exact HT.out));cases k with
    | zero =>
     go_wp2_with fail;clear hW;go_quiet (fail);obtain⟨W3,hW3⟩:∃ W3,W.drewN nq=W3:=⟨_,rfl⟩;have HB3:Hid (Below wr.heap.size wr W3):=hW3▸below_drewN HW.out nq;have q1:W3.cell? ⟨wr.heap.size,0,none⟩=some (.slice sa xs.length sc):=by rw[<-hW3];exact p1
     have q2:W3.cell? ⟨wr.heap.size,1,none⟩=some (.int .i64 kw):=by rw[<-hW3];exact p2
     rw[hW3];clear hW3 p1 p2;have HR3:Hid (Row W3 g 0 vs):=HG.out.row.keep HB3.out;have hg3:=HR3.out.lt;go_wp2_with (at_builtin;refine wpList_append_arg _ rfl (.tmp 47) (.tmp 49) 60 rfl 77 i0 (.agg #[.slice none 0 0,.int .i64 0]) 2 32 underlying60 hi0 hz0 hz1 hz2 rfl (by decide) g 0 0 cap (flat (vs.take 0)) rfl ?q1 ?q2 ⟨W3.heap.size,0,none⟩ 1 1 [.slice sa xs.length sc,.int .i64 kw] rfl ?q3 ?q4 ?q5 ?q6 ?q7 ?q8 ?q9 ?q10)
     case q1=>rw[dI];simp <;> omega
     case q2 =>
      intro j u hj
      have hcl:jD (W3.alloc (.cells #[.slice sa xs.length sc,.int .i64 kw] 77)) g 0 (vs.take 0):=by
       intro j' t' ht';rw[eH] at ht';split at ht'
       ·exact(HR3.out.keep (ba _ _)).cells j' t' ht'
       ·cases ht'
      exact rS hcl j u hj
     case q3=>rfl
     case q4 =>
      intro j u hj
      match j,hj with
      | 0,hj=>simp at hj;subst hj;simp[go_sem,Addr.add]
      | 1,hj=>simp at hj;subst hj;simp[go_sem,Addr.add]
     case q5=>intro u hu;simp at hu;rcases hu with rfl|rfl <;> rfl
     case q6 =>
      intro _ j hj;have hr4:=HR3.out.keep (ba W3 (.cells #[.slice sa xs.length sc,.int .i64 kw] 77));have hz:=hr4.cells.len_cell (i:=0) (by omega)
      match j,hj with
      | 0,_=>exact⟨by simpa using hz.1,by simpa using hr4.thaw (0*2) (by omega)⟩
      | 1,_=>exact⟨by simpa using hz.2,by simpa using hr4.thaw (0*2+1) (by omega)⟩
     case q7=>simp[maxLen] <;> omega
     case q8=>omega
     case q10=>intro h;exact absurd h (by omega)
     intro _;have hrow5:=(HR3.out.keep (ba W3 (.cells #[.slice sa xs.length sc,.int .i64 kw] 77))).setP (i:=0) (by omega) (.slice sa xs.length sc,xs,kw)
     have HF:Hid (Gl w B g cap us (i+1) (0+1) (vs.set 0 (.slice sa xs.length sc,xs,kw)) ((W3.alloc (.cells #[.slice sa xs.length sc,.int .i64 kw] 77)).setCells g (0+0*2) [.slice sa xs.length sc,.int .i64 kw])) :=
      HG.out.app h1 HQ.out.2.1 HT.out hw1 (fun _ h=>absurd h (by omega)) hrow5 (bs (bs (bal (bt HG.out.bel HB3.out) _) (by simp;omega) _) (by simp;omega) _)
     clear hrow5;go_wp2
     go_roundw
     case rel=>exact⟨i+1,0+1,_,by go_num,by go_num,h1,HF.out⟩
     case measure=>simp[intOf];omega
    | succ k =>
     obtain⟨⟨sl,xl,kl⟩,hq,htk⟩:=HG.out.last hiu;obtain⟨la,lc,he,_⟩:=HG.out.ints _ (uX hq);simp only at he;subst he;have HIl:Hid (zQ w B B (.slice la xl.length lc) xl):=HG.out.ints _ (uX hq);have rw1:=HG.out.row.keep HW.out;obtain⟨d1,d2⟩:=rw1.cells k _ hq;have d3:=rw1.thaw (k*2+1) (by omega);simp only[jZ] at d1 d2 d3;have hsum:=HG.out.sum HQ.out.2.2.1 HT.out hq HQ.out.2.2.2;simp only at hsum;have HQ2:Hid (vs[k]? = some (.slice la xl.length lc,xl,kl)):=hq;obtain⟨r1,HC⟩:∃ r1,Hid (lZ xl xs=r1):=⟨_,rfl⟩;have hgW:g<W.heap.size:=by omega
     have lw2:wr.heap.size<W.heap.size:=by omega
     have z1:(0:Int)<=(k:Int):=by omega
     have z2:(k:Int)<(k:Int)+1:=by omega
     have z3:(k:Int)<=(k:Int)+1:=by omega
     clear hq htk rw1;go_wp2_with fail;clear hW
     go_region_held3 (fun w'=>Below W.heap.size W w'/\w'.cell? ⟨wr.heap.size,0,none⟩=some (.slice sa xs.length sc)/\w'.cell? ⟨wr.heap.size,1,none⟩=some (.int .i64 kw)/\w'.cell? ⟨g,k*2,none⟩=some (.slice la xl.length lc)/\w'.cell? ⟨g,k*2+1,none⟩=some (.int .i64 kl))
      ((go_split_ands;refine⟨?_,?_,?_,?_,?_⟩ <;> first|(simp[go_sem, *];done)|(exact(aQ _ _).drew)|(exact bt (aQ _ _).drew hb1)))
      ((go_at_call 37;refine(bfX B B B _ _ _ _ xl xs _ ?_ ?_ ?_ r1 HC.out).mono ?_;(have:=HW.out.size;show B<=W.heap.size;have:=HG.out.bel.size;omega);(exact HIl.out.at hB (bt HG.out.bel HW.out.drew));(exact HIp.out.at hB (bt HG.out.bel HW.out.drew));rintro x1 w1 ⟨rfl,hb1⟩;obtain⟨hc1,hf1⟩:=bcell hb1;have hs1':=hb1.size;have k1:w1.cell? ⟨wr.heap.size,0,none⟩=some (.slice sa xs.length sc):=(hc1 _ _ lw2).trans p1;have k2:w1.cell? ⟨wr.heap.size,1,none⟩=some (.int .i64 kw):=(hc1 _ _ lw2).trans p2;have k3:w1.cell? ⟨g,k*2,none⟩=some (.slice la xl.length lc):=(hc1 _ _ hgW).trans d1;have k4:w1.cell? ⟨g,k*2+1,none⟩=some (.int .i64 kl):=(hc1 _ _ hgW).trans d2;have k5:w1.frozen? ⟨g,k*2+1,none⟩=false:=(hf1 _ _ hgW).trans d3;clear hc1 hf1))
     rename_i hHeld;clear hHeld p1 p2 d1 d2 d3;have HB3:Hid (Below wr.heap.size wr w1):=bt HW.out.drew hb1;have hgw:g<w1.heap.size:=by have:=HB3.out.size;omega
     clear hb1;by_cases hr0:r1=0
     ·have hxx:Hid (xl=xs):=(bN _ _).1 (HC.out.trans hr0)
      have HR1:Hid (Row w1 g 0 vs):=HG.out.row.keep HB3.out;subst hr0;go_wp2_with fail
      go_region
      have HF:Hid (Gl w B g cap us (i+1) (k+1) (vs.set k (.slice la xl.length lc,xl,kl+kw)) (w1.setCell ⟨g,k*2+1,none⟩ (.int .i64 (kl+kw))).drew):=by
       have hrow5:=HR1.out.setW HQ2.out (kl+kw);simp only[jZ] at hrow5;exact HG.out.add h1 HT.out hw1 HQ2.out hxx.out (hrow5.keep (aQ _ _).drew) (bs (bt HG.out.bel HB3.out) (by simp;omega) _).drew
      clear k1 k2 k3 k4 k5;go_wp2
      go_roundw
      case rel=>exact⟨i+1,k+1,_,by go_num,by go_num,h1,HF.out⟩
      case measure=>simp[intOf];omega
     ·have hr0':(r1 == 0)=false:=by simpa using hr0
      have HNE:Hid (∀ q:Tr,0<k+1->vs[k+1 - 1]? = some q->q.2.1≠xs):=by
       intro q _ hq;rw[show k+1 - 1=k by omega,HQ2.out] at hq;simp only[vX] at hq;subst hq;intro he;exact hr0 (by rw[<-HC.out];exact(bN _ _).2 he)
      clear hr0 k3 k4 k5;have HR3:Hid (Row w1 g 0 vs):=HG.out.row.keep HB3.out;obtain⟨t1,ht1⟩:=wX (l:=vs) (i:=k+1) (by omega);obtain⟨e1,e2⟩:=HR3.out.cells _ _ ht1;have e3:=HR3.out.thaw ((k+1)*2) (by omega);have e4:=HR3.out.thaw ((k+1)*2+1) (by omega);simp only[jZ] at e1 e2 e3 e4;obtain⟨v1,hv1⟩:∃ v1,t1.1=v1:=⟨_,rfl⟩;obtain⟨v2,hv2⟩:∃ v2,t1.2.2=v2:=⟨_,rfl⟩;rw[hv1] at e1;rw[hv2] at e2;clear ht1 hv1 hv2
      have HF:Hid (Gl w B g cap us (i+1) (k+1+1) (vs.set (k+1) (.slice sa xs.length sc,xs,kw)) (((w1.setCell ⟨g,(k+1)*2,none⟩ (.slice sa xs.length sc)).setCell ⟨g,(k+1)*2+1,none⟩ (.int .i64 kw)).alloc (.cells #[.slice sa xs.length sc,.int .i64 kw] 77))) :=
       HG.out.app h1 HQ.out.2.1 HT.out hw1 HNE.out ((HR3.out.set0 (by omega) (.slice sa xs.length sc) xs kw).keep (ba _ _)) (bal (bs (bs (bt HG.out.bel HB3.out) (by simp;omega) _) (by simp;omega) _) _)
      go_wp2
      go_roundw
      case rel=>exact⟨i+1,k+1+1,_,by go_num,by go_num,h1,HF.out⟩
      case measure=>simp[intOf];omega
  ·have hii:i=us.length:=by omega
   have hK:rd (vs.take k)=r:=by
    rw[<-HH.out.2.2.1];have hgd:=hG.good;rw[hii,wH] at hgd;exact(cE HH.out.1 hgd.rise hgd.pos fun o=>(hgd.wts o).trans (a8X (xT HQ.out.1) o)).symm
   have HK:Hid (rd (vs.take k)=r):=hK;have hP:=hG.row.parts (cap:=cap) (k:=k) (uQ hB hG.bel.size) (fun t ht=>(hG.ints t ht).at hB hG.bel) (by omega) (by omega) (by omega);have kc:=rE _ _ _ wr (vQ _) hP;have hbw:=hG.bel;clear hG hK hP;go_wp2_with fail;refine kc.mono ?_;rintro e w3 ⟨v',us',rfl,hO,hrd,hb3,hfr⟩;obtain⟨b',o',c',rfl,hO'⟩:=hO;have HO:Hid (Own w3 w.heap.size (.slice (some ⟨b',o',none⟩) us'.length c') us'):=Own.mono ⟨b',o',c',rfl,hO'⟩ hbw.size;have HD:Hid (rd us' = r):=by rw[Hid,hrd,HK.out]
   have HB:Hid (Below w.heap.size w w3):=bt hbw hb3;have HFR:Hid (nX w.heap.size us'):=hfr.mono hbw.size;clear hO' hrd hb3 hbw kc hfr;go_wp2;go_ret;exact⟨_,us',rfl,HO.out,HD.out,HB.out,HFR.out⟩
