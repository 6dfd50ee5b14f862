import Derived.Test.YtcaplmodgbpchaaGreatDoorQq08
import Derived.Test.YtcaplmodgbpchaaGreatDoorQq09
import Derived.Shelf.SlSortCmp.NoneTotal
import Derived.Shelf.RegionOpenPlain
import Derived.Deep.LoopGhost
import Derived.Lib.Walk
import Derived.ArgAppend
open Go.Proofs.Tryz
open Go.Value(int)
open Go.IntKind(i64)
set_option linter.unusedSimpArgs false
set_option maxHeartbeats 16000000
set_option maxRecDepth 100000
namespace Go.Proofs.YtcaplmodgbpchaaGreatDoor
variable {w w' wr:World} {B b base cap g i j k n nb o:Nat} {cur:Array Value} {e:TypeId} {v:Value} {xs:List Int} {p:Addr}
section
open Go.RowKit Ds Go.Sort Go.Shelf
theorem rH:(prog.info? 3).map (fun i=>(i.zero,i.size,i.bytes))=some (some (int i64 0),1,8):=by kernel_rfl
theorem gM:(prog.info? 186).map (fun i=>(i.zero,i.size,i.bytes))=some (some (.agg #[.slice none 0 0,int i64 0]),2,32):=by kernel_rfl
def flat (ts:List Tr):List Value:=ts.flatMap fun t=>[t.1,int i64 t.2.2]
theorem cL (ts:List Tr):(flat ts).length=ts.length*2:=by
 induction ts with
 | nil=>rfl
 | cons t ts ih=>simp[flat] at *;omega
theorem l7 (ts:List Tr)(i:Nat):(flat ts)[i*2]? = ts[i]?.map (·.1)/\(flat ts)[i*2+1]? = ts[i]?.map fun t=>int i64 t.2.2:=by
 induction ts generalizing i with
 | nil=>simp[flat]
 | cons t ts ih =>
  cases i with
  | zero=>simp[flat]
  | succ i =>
   have h:=ih i;have e:flat (t::ts)=t.1::int i64 t.2.2::flat ts:=rfl;rw[e,show(i+1)*2=i*2+1+1 by omega,show i*2+1+1+1=(i*2+1)+1+1 by omega];simpa using h
theorem o7 {ts:List Tr}(h:gD w b o ts):∀ j u,(flat ts)[j]? = some u->w.cell? ⟨b,o+j,none⟩=some u:=by
 intro j u a;have m:j<ts.length*2:=by rw[<-cL];exact(fQ.1 a).1
 obtain⟨t,g⟩:=fX (l:=ts) (i:=j / 2) (by omega);have k:=l7 ts (j / 2);rcases Nat.mod_two_eq_zero_or_one j with p|p
 ·have e:j=j / 2*2:=by omega
  rw[e] at a ⊢;rw[k.1,g] at a;rw[(h _ t g).1];simpa using a
 ·have e:j=j / 2*2+1:=by omega
  rw[e] at a ⊢;rw[k.2,g] at a;rw[<-cU,(h _ t g).2];simpa using a
theorem xP (h:w.heap[g]? = some (.cells cur e (0,0))):w.frozen? ⟨g,j,none⟩=false:=by
 simp[World.frozen?,h]
theorem tT {ts:List Tr}(A:n=ts.length)(h:w.ownsRow base 186 2 v n (flat ts))(o:v≠.slice none 0 0) :
  ∃ g cap,v=.slice (some ⟨g,0,none⟩) ts.length cap/\ts.length<=cap/\base<=g/\Row w g 0 ts:=by
 subst A;obtain⟨_,⟨p,_⟩|⟨g,cap,cur,p,z,a,hc,_,B,C⟩⟩:=h
 ·exact absurd p o
 ·have k:∀ j u,(flat ts)[j]? = some u->w.cell? ⟨g,0+j,none⟩=some u:=by
   intro j u l;have m:j<ts.length*2:=by rw[<-cL];exact(fQ.1 l).1
   have:cur[j]? = some u:=by
    rw[<-C,oG m] at l;simpa using l
   simp[World.cell?,a,this]
  refine⟨g,cap,p,hc,z,⟨fun i t ht=>?_,fun j _=>xP a,(mY.1 a).1⟩⟩;have y:=l7 ts i;exact⟨k _ _ (by rw[y.1,ht];rfl),by rw[cU];exact k _ _ (by rw[y.2,ht];rfl)⟩
theorem zP {w:World}{base nb:Nat}{v:Value}{xs:List Int}{n:Nat}(o:n=xs.length)(l:xs.length<=1073741824)(h:w.ownsRow base 3 1 v n (xs.map (int i64)))(p:nb<base):yQ w w.heap.size nb v xs:=by
 subst o;obtain⟨_,⟨j,A⟩|⟨g,cap,cur,j,B,a,hc,_,y,z⟩⟩:=h
 ·obtain rfl:xs=[]:=by cases xs <;> simp_all
  exact⟨none,0,j,vQ _,l,fun h=>absurd rfl h⟩
 ·refine⟨_,cap,j,hc,l,fun _=>⟨g,0,rfl,(mY.1 a).1,by omega,fun i x hi=>?_⟩⟩
  have m:i<xs.length:=(fQ.1 hi).1
  have:cur[i]? = some (int i64 x):=by
   have k:(xs.map (Value.int .i64))[i]? = some (int i64 x):=by simp[hi]
   rw[<-z,oG (by omega)] at k;simpa using k
  simp[World.cell?,a,this]
theorem pP (B nb:Nat)(v:Value)(xs:List Int)(w:World)(hB:B<=w.heap.size)(E:yQ w B nb v xs) :
  Calls prog 43 #[v] w fun e w'=>∃ F,e=.returned F/\(∀ m,m<w.heap.size->yQ w' w'.heap.size m F xs)/\xQ w w':=by
 obtain⟨a,c,rfl,hc,N,g⟩:=E;have Q:∀ (w:World) (a:Option Addr) (n c n' c':Nat),(binOp .eql 35 (.slice a n c) (.slice none n' c')).run prog w=.ok (.bool a.isNone) w:=fun w a n c n' c'=>tO w _ _ a n c n' c' underlying35;cases a with
 | none =>
  obtain rfl:xs=[]:=by
   cases xs with
   | nil=>rfl
   | cons x l=>obtain⟨b,o,h,_⟩:=g (by simp);cases h
  clear g;go_enter func43,ntmps43;go_wp2;go_ret;exact⟨_,rfl,fun m _=>⟨none,0,rfl,vQ _,by simp,fun h=>absurd rfl h⟩,uQ _ _⟩
 | some ad =>
  have A:Hid (∀ j u,(xs.map (Value.int .i64))[j]? = some u->∀ o,(w.alloc o).cell? (ad.add j)=some u):=by
   intro j u D o;have y:j<xs.length:=by have:=(fQ.1 D).1;simpa using this
   obtain⟨b,S,J,R,_,i⟩:=g (ne_of_lt y);obtain⟨x,E⟩:=fX y;simp only[aZ] at J;subst J;rw[bJ,pH _ _ _ (by simp;omega),i j x E];simpa [E] using D
  obtain⟨P,hi,G,H,I⟩:=pZ rH;clear g;have z:Hid (xs.length*8<=140737488355328/\xs.length<=maxLen):=⟨by omega,by simp[maxLen];omega⟩;go_enter func43,ntmps43;go_wp2_with (at_builtin;refine qF _ rfl _ _ 35 rfl w.heap.size 3 P (int i64 0) 1 8 underlying35 hi G H I rfl (by decide) _ _ _ rfl (wO w #[] 0 (vQ _) (dQ _) (by simp)) ad xs.length c (xs.map (Value.int .i64)) rfl ?qc1 ?qc2 ?qc3 ?qc4 ?qc5 ?qc6 ?_)
  case qc1=>simp
  case qc2=>intro j u D;exact A.out j u D _
  case qc3=>intro u O;obtain⟨x,_,rfl⟩:=iJ.1 O;rfl
  case qc4=>rw[vX];exact z.out.2
  case qc5=>rw[vX];exact z.out.1
  case qc6=>simp
  intro F T C p L;go_wp2;go_ret;refine⟨F,rfl,fun m hm=>zP (vX _) N (by simpa using C) hm,?_⟩;exact((uQ _ w).alloc (vQ _) _).grown p (by simp) (by intro k M;simp[Value.ownBlock] at M;omega)
theorem diZ (B:Nat)(v:Value)(ts:List Tr)(w:World)(hB:B<=w.heap.size)(Q:uX w B v ts) :
  Calls prog 229 #[v] w fun e w'=>∃ D,e=.returned D/\xQ w w' /\
   ((ts=[]/\D = .slice none 0 0)\/∃ g cap,D = .slice (some ⟨g,0,none⟩) ts.length cap/\ts.length<=cap/\w.heap.size<=g/\Row w' g 0 ts):=by
 obtain⟨a,c,rfl,hc,U,H,i⟩:=Q;have S:∀ (w:World) (a:Option Addr) (n c n' c':Nat),(binOp .eql 92 (.slice a n c) (.slice none n' c')).run prog w=.ok (.bool a.isNone) w:=fun w a n c n' c'=>tO w _ _ a n c n' c' underlying92;cases a with
 | none =>
  obtain rfl:ts=[]:=by
   cases ts with
   | nil=>rfl
   | cons x l=>obtain⟨b,o,h,_⟩:=i (by simp);cases h
  clear i H;go_enter func229,ntmps229;go_wp2;go_ret;exact⟨_,rfl,uQ _ _,by simp⟩
 | some ad =>
  have A:Hid (∀ j u,(flat ts)[j]? = some u->∀ o,(w.alloc o).cell? (ad.add j)=some u):=by
   intro j u F o;have I:j<ts.length*2:=by rw[<-cL];exact(fQ.1 F).1
   obtain⟨b,V,E,T,m⟩:=i (by rintro rfl;simp at I);simp only[aZ] at E;subst E;rw[bJ,pH _ _ _ (by simp;omega)];exact o7 m j u F
  have N:Hid (∀ u∈flat ts,u.oneCell' = true):=by
   intro u G;obtain⟨t,P,G⟩:=gC.1 G;obtain⟨X,Y,E,_⟩:=H t P;simp only[kJ,cI,dI] at G;rcases G with rfl|rfl
   ·rw[E];rfl
   ·rfl
  obtain⟨R,hi,J,L,M⟩:=pZ gM;clear i H;have y:Hid (ts.length*32<=140737488355328/\ts.length<=maxLen):=⟨by omega,by simp[maxLen];omega⟩;go_enter func229,ntmps229;go_wp2_with (at_builtin;refine qF _ rfl _ _ 92 rfl w.heap.size 186 R (.agg #[.slice none 0 0,int i64 0]) 2 32 underlying92 hi J L M rfl (by decide) _ _ _ rfl (wO w #[] 0 (vQ _) (dQ _) (by simp)) ad ts.length c (flat ts) rfl ?qc1 ?qc2 ?qc3 ?qc4 ?qc5 ?qc6 ?_)
  case qc1=>exact cL ts
  case qc2=>intro j u F;exact A.out j u F _
  case qc3=>exact N.out
  case qc4=>rw[vX];exact y.out.2
  case qc5=>rw[vX];exact y.out.1
  case qc6=>simp
  intro D Z C p z;go_wp2;go_ret;refine⟨D,rfl,?_,.inr ?_⟩
  ·exact((uQ _ w).alloc (vQ _) _).grown p (by simp) (by intro k O;simp[Value.ownBlock] at O;omega)
  ·exact tT (vX _) (by simpa using C) z
abbrev RP (w:World) (B:Nat):={ t:Tr // yQ w B B t.1 t.2.1 }
theorem t7 {α:Type} [Inhabited α] (enc:α->List Value)(w:World)(B a i m:Nat)(d:Array α)(os:Array Obj)(h:B<=a)(j:a<w.heap.size):Below B w (sortWorldK enc 2 w a i m d os):=by
 refine⟨rfl,rfl,rfl,?_,fun k hk=>?_⟩
 ·simp[sortWorldK,putRowK,putRow,mapBlock,grow]
 ·have g:k<w.heap.size:=by omega
  simp only[sortWorldK,putRowK,putRow,mapBlock,grow];rw[Array.getElem?_append_left (by simpa using g),Array.getElem?_modify,zQ (by omega)];rfl
theorem diJ :SWO (ltOf fun x y:RP w B=>iZ x.1.2.1 y.1.2.1) where
 irrefl x:=by simp[ltOf,aP]
 trans x y z h1 h2:=by
  simp only[ltOf,dJ] at *
  exact wK h1 h2
 ntrans x y z h1 h2:=by
  simp only[ltOf,decide_eq_false_iff_not] at *
  intro h;rcases bP x.1.2.1 y.1.2.1 with c|c|c
  ·exact h1 c
  ·rw[<-c] at h2;exact h2 h
  ·exact h2 (wK c h)
def wH {w:World} {B:Nat} (x:RP w B):List Value:=[x.1.1,int i64 x.1.2.2]
theorem j8 (w:World)(B nb:Nat):yQ w B nb (.slice none 0 0) []:=⟨none,0,rfl,vQ _,by simp,fun h=>absurd rfl h⟩
theorem readables {w:World}{B:Nat}:∀ {ts:List Tr},(∀ t∈ts,yQ w B B t.1 t.2.1)->∃ l:List (RP w B),l.map (·.1)=ts
 | [],_=>⟨[],rfl⟩
 | t::ts,h=>by
  obtain⟨l,a⟩:=readables (ts:=ts) fun u hu=>h u (by simp[hu]);exact⟨⟨t,h t (by simp)⟩::l,by simp[a]⟩
theorem djQ (B R c:Nat)(ts:List Tr)(w:World)(hB:B<=R)(hR:Row w R 0 ts)(S:∀ t∈ts,yQ w B B t.1 t.2.1)(Z:ts.length<=1073741824) :
  Calls prog 230 #[.slice (some ⟨R,0,none⟩) ts.length c,.func (.func 210) #[] #[]] w fun e w'=>e=.returned (.tuple #[]) /\
   ∃ us,us.Perm ts/\us.Pairwise (fun a b=>¬ yJ b.2.1 a.2.1)/\Row w' R 0 us/\Below R w w':=by
 obtain⟨l,p⟩:=readables S;have N:Inhabited (RP w B):=⟨⟨(.slice none 0 0,[],0),j8 w B B⟩⟩;have C:ts.length=l.toArray.size:=by rw[<-p];simp
 have A:∀ i,i<l.toArray.size->ts[i]? = some (l.toArray[i]!).1:=by
  intro i hi;rw[<-p,mV,getElem!_pos l.toArray i hi];simp at hi;simp[hi]
 have O:∀ args w,(callFunc 210 args).run prog w=.ok (.enter 210 args) w:=enters_of func210 (by kernel_rfl) rfl
 have L:HoldsK wH 2 w R 0 l.toArray:=by
  intro j k;rw[size_flatK] at k;have Q:j / 2<l.toArray.size:=by omega
  have hc:=hR.cells _ _ (A _ Q);refine⟨?_,hR.thaw j (by omega)⟩
  show w.cell? ⟨R,0+j,none⟩=some ((flatK wH 2 l.toArray)[j]!)
  rw[get_flatK _ _ _ _ k];rcases Nat.mod_two_eq_zero_or_one j with H|H
  ·rw[H,show 0+j=0+j / 2*2 by omega,hc.1];rfl
  ·rw[H,show 0+j=0+j / 2*2+1 by omega,hc.2];rfl
 have z:CmpLays prog 210 #[] (wH (w:=w) (B:=B)) 2 (fun x y=>iZ x.1.2.1 y.1.2.1) R 0 l.toArray.size w:=by
  intro m os dk T x y;have F:=t7 (wH (w:=w) (B:=B)) w B R 0 m dk os hB hR.lt;have I:B<=(sortWorldK (wH (w:=w) (B:=B)) 2 w R 0 m dk os).heap.size:=by have:=F.size;have:=hR.lt;omega
  refine(mN B B B x.1.1 y.1.1 x.1.2.2 y.1.2.2 x.1.2.1 y.1.2.1 _ I (x.2.keep F) (y.2.keep F) _ rfl).mono ?_;rintro e w' ⟨rfl,X,Y,rfl⟩;exact⟨rfl,0,#[X,Y],by rw[alloc_eq_grow,alloc_eq_grow,grow_grow];rfl⟩
 have P:∀ x:RP w B,∀ v∈wH x,v.oneCell' = true:=by
  intro x v M;simp only[wH,kJ,cI,dI] at M;obtain⟨sa,sc,U,_⟩:=x.2;rcases M with rfl|rfl
  ·rw[U];rfl
  ·rfl
 have h:=AnyQ.slices_SortFunc Tryz.sortP 2 Tryz.isAgg186 Tryz.sizeOf186 (wH (w:=w) (B:=B)) (fun _=>rfl) P (fun x y=>iZ x.1.2.1 y.1.2.1) diJ 210 #[] R 0 c l.toArray w O z L hR.lt (by omega);change Calls prog 230 _ _ _ at h;rw[C];refine h.mono ?_;rintro e w' ⟨rfl,g,n,os,D,V,rfl⟩;refine⟨rfl,g.toList.map (·.1),?_,?_,?_,t7 _ w R R 0 n g os (vQ _) hR.lt⟩
 ·have E:=D.2.2
  rw[<-p];refine List.Perm.map _ ?_;have e:l.length=g.toList.length:=by have:=D.1;simp at this;simp[this]
  simp at E;rw[e,bU] at E;exact E
 ·rw[List.pairwise_map,List.pairwise_iff_getElem]
  intro i j hi k G;have:=V i j (dQ _) G (by rw[<-D.1];simpa using k);simp only[rL] at hi k;rw[getElem!_pos g i hi,getElem!_pos g j k] at this;simpa [ltOf] using this
 ·have o:HoldsK wH 2 (sortWorldK (wH (w:=w) (B:=B)) 2 w R 0 n g os) R 0 g:=holdsK_sortWorldK_c _ _ _ _ _ _ _ _ _ L hR.lt D.1
  refine⟨fun i t ht=>?_,fun j k=>?_,lQ hR.lt (t7 _ w R R 0 n g os (vQ _) hR.lt).size⟩
  ·have hi:i<g.size:=by have:=(fQ.1 ht).1;simpa using this
   have J:t=(g[i]!).1:=by rw[getElem!_pos g i hi];simp[hi] at ht;exact ht.symm
   have c0:=(o.cell hi (show 0<2 by decide)).1;have c1:=(o.cell hi (show 1<2 by decide)).1;subst J;exact⟨c0,c1⟩
  ·have:=(o j (by rw[size_flatK];simpa using k)).2
   exact this
end
section
open Go.RowKit Ds
abbrev no:Tr:=(.slice none 0 0,[],0)
theorem djX (w:World)(n:Nat):Row (w.alloc (.cells (madeCells #[.slice none 0 0,int i64 0] (n*2)) 186)) w.heap.size 0 (List.replicate n no):=by
 have hc:∀ j,j<n*2->(w.alloc (.cells (madeCells #[.slice none 0 0,int i64 0] (n*2)) 186)).cell? ⟨w.heap.size,j,none⟩=some (#[Value.slice none 0 0,int i64 0][j % 2]!):=by
  intro j a;rw[pO _ _ _ _ rfl];simp[madeCells,a]
 refine⟨fun i t ht=>?_,fun j _=>nC _ _ _ _ rfl,by simp⟩;have hi:i<n:=by have:=(fQ.1 ht).1;simpa using this
 obtain rfl:t=no:=by
  have:=(fQ.1 ht).2;simp at this;exact this.symm
 refine⟨?_,?_⟩
 ·rw[show 0+i*2=i*2 by omega,hc _ (by omega)];simp
 ·rw[show 0+i*2+1=i*2+1 by omega,hc _ (by omega)]
  rw[show(i*2+1) % 2=1 by omega];rfl
theorem djZ (w:World)(b o:Nat)(u v:Value):w.setCells b o [u,v]=(w.setCell ⟨b,o,none⟩ u).setCell ⟨b,o+1,none⟩ v:=rfl
theorem yO {α:Type}{l:List α}(x:α)(h:i<l.length):(l.set i x).take (i+1)=l.take i++[x]:=by
 rw[rX,List.take_set_of_le (vQ _),wD h];rfl
theorem Row.set0 {us:List Tr}(h:Row w b 0 us)(hi:i<us.length)(s:Value)(xs:List Int)(k:Int) :
  Row ((w.setCell ⟨b,i*2,none⟩ s).setCell ⟨b,i*2+1,none⟩ (int i64 k)) b 0 (us.set i (s,xs,k)):=by
 have:=h.setP hi (s,xs,k);rw[djZ,vX] at this;exact this
theorem yQ.set (h:yQ w B nb v xs)(k:p.block=nb)(u:Value):yQ (w.setCell p u) B nb v xs:=by
 obtain⟨a,c,y,hc,m,z⟩:=h;refine⟨a,c,y,hc,m,fun hne=>?_⟩;obtain⟨b,o,ha,l,j,g⟩:=z hne;refine⟨b,o,ha,l,j,fun i x hi=>?_⟩;rw[jX (by intro h;rw[h] at k;exact j k)];exact g i x hi
theorem d8 (a:List Tr)(i:Nat)(t:Tr):rd (a.set i t)=(rd a).set i t.2:=by simp[rd,List.map_set]
theorem yQ.at2 (h:yQ w w.heap.size nb v xs)(a:xQ w w'):yQ w' w'.heap.size nb v xs :=
 (h.keep a).mono a.size (.inl rfl)
theorem beJ (B:Nat)(v:Value)(ts:List Tr)(w:World)(hB:B<=w.heap.size)(hp:uX w B v ts) :
  Calls prog 231 #[v] w fun e w'=>∃ v' j,e=.returned v'/\Own w' w.heap.size v' j/\rd j=rd ts/\xQ w w'/\dZ w.heap.size j:=by
 have HP:=qQ hp;obtain⟨a,c,rfl,hc,hl,_⟩:=hp;obtain⟨i0,hi,ax,ay,az⟩:=pZ gM
 have bw:∀ u:World,(Instr.makeSlice 93 (int i64 (ts.length:Int)) (int i64 (ts.length:Int))).run prog u =
   .ok (.slice (some ⟨u.heap.size,0,none⟩) ts.length ts.length) (u.alloc (.cells (madeCells #[.slice none 0 0,int i64 0] (ts.length*2)) 186)):=fun u=>by
  have h:=run_make (P:=prog) u 93 186 i0 (.agg #[.slice none 0 0,int i64 0]) underlying93 hi ax .i64 .i64 (ts.length:Int) (ts.length:Int) (by omega) (iK _) (by rw[az];omega) (by omega);rw[tF] at h;simpa [ay,Value.cells] using h
 go_enter func231,ntmps231;go_wp2
 go_loopw [11] (fun s wr=>∃ (i:Nat) (j:List Tr),s=int i64 (i:Int)/\i<=ts.length/\j.length=ts.length/\(rd j).take i=(rd ts).take i/\Row wr w.heap.size 0 j/\(∀ t∈j,yQ wr wr.heap.size w.heap.size t.1 t.2.1)/\xQ w wr/\Hid (dZ w.heap.size j)) (fun s _=>ts.length - (intOf s).toNat)
 case atStart =>
  refine⟨0,List.replicate ts.length no,rfl,dQ _,by simp,by simp,djX _ _,fun t I=>?_,ba _ _,fun t I hne=>?_⟩
  ·rw[List.eq_of_mem_replicate I]
   exact j8 _ _ _
  ·rw[List.eq_of_mem_replicate I] at hne
   exact absurd rfl hne
 case round =>
  obtain⟨i,j,rfl,br,L,T,g,Y,G,M⟩:=hrel;have HT:=qQ T;clear T;by_cases h1:i<ts.length
  ·obtain⟨b,o,sa,sc,A,k,rfl,hb,hs,c1,c2,Q⟩:=HP.out.get hB G h1
   have HS:=qQ hs;obtain⟨t0,S⟩:=fX (l:=j) (i:=i) (by omega);have r1:=g.cells i t0 S;have r2:=g.thaw (i*2) (by omega);have r3:=g.thaw (i*2+1) (by omega);have HR:=qQ g;have HI:=qQ Y;have ac:=qQ Q;have H:=g.lt;obtain⟨Z,r5⟩:=r1;simp only[vX] at r2 r3 Z r5;obtain⟨v0,U⟩:∃ v0,t0.1=v0:=⟨_,rfl⟩;rw[U] at Z;clear hs g Y Q S U;have r6:∀ o,(wr.alloc o).cell? ⟨w.heap.size,i*2,none⟩=some v0:=fun o=>by rw[pH _ _ _ H];exact Z
   have r7:∀ o,(wr.alloc o).cell? ⟨w.heap.size,i*2+1,none⟩=some (int i64 t0.2.2):=fun o=>by rw[pH _ _ _ H];exact r5
   have r8:∀ o,(wr.alloc o).frozen? ⟨w.heap.size,i*2,none⟩=false:=fun o=>by rw[(ba wr o).frozen H];exact r2
   have r9:∀ o,(wr.alloc o).frozen? ⟨w.heap.size,i*2+1,none⟩=false:=fun o=>by rw[(ba wr o).frozen H];exact r3
   go_wp2_with fail;generalize hO:Obj.cells #[Value.slice sa A.length sc,Value.int IntKind.i64 k] 186=O;have g1:(wr.alloc O).cell? ⟨wr.heap.size,0,none⟩=some (.slice sa A.length sc):=by rw[<-hO];simp[go_sem]
   have g2:(wr.alloc O).cell? ⟨wr.heap.size,1,none⟩=some (int i64 k):=by rw[<-hO];simp[go_sem]
   have g3:=r6 O;have g4:=r7 O;have g5:=r8 O;have g6:=r9 O;have g7:(wr.alloc O).heap.size=wr.heap.size+1:=by simp
   obtain⟨W,hW⟩:∃ W,wr.alloc O=W:=⟨_,rfl⟩;have X:Hid (xQ wr W):=hW▸ba wr O;rw[hW] at g1 g2 g3 g4 g5 g6 g7 ⊢;clear r2 r3 Z r5 r6 r7 r8 r9 hO hW;have HB:xQ w W:=bt G X.out;have D:w.heap.size<W.heap.size:=by omega
   have V:wr.heap.size<W.heap.size:=by omega
   go_region_held3 (fun w'=>xQ w w'/\w'.cell? ⟨wr.heap.size,0,none⟩=some (.slice sa A.length sc)/\w'.cell? ⟨wr.heap.size,1,none⟩=some (int i64 k))
    ((go_split_ands;refine⟨?_,?_,?_⟩ <;> first|(simp[go_sem, *];done)|(exact HB.drew)|(exact bt HB.drew z)|(exact bs (bs (bt HB.drew z) (vQ _) _) (vQ _) _)))
    ((go_at_call 43;refine(pP B B _ A _ ?_ ?_).mono ?_;(have:=X.out.size;show B<=W.heap.size;omega);(exact ac.out.at (by omega) X.out.drew);rintro x1 y ⟨v',rfl,F,z⟩;obtain⟨av,cv,aw,_⟩:=F 0 (by show 0<W.heap.size;omega);subst aw;obtain⟨C,J⟩:=bcell z;have bh:=z.size;have k1:y.cell? ⟨w.heap.size,i*2,none⟩=some v0:=(C _ _ D).trans g3;have k2:y.cell? ⟨w.heap.size,i*2+1,none⟩=some (int i64 t0.2.2):=(C _ _ D).trans g4;have k3:y.frozen? ⟨w.heap.size,i*2,none⟩=false:=(J _ _ D).trans g5;have k4:y.frozen? ⟨w.heap.size,i*2+1,none⟩=false:=(J _ _ D).trans g6;have k5:y.cell? ⟨wr.heap.size,0,none⟩=some (.slice sa A.length sc):=(C _ _ V).trans g1;have k6:y.cell? ⟨wr.heap.size,1,none⟩=some (int i64 k):=(C _ _ V).trans g2;clear C J))
   have E:xQ wr y:=bt X.out.drew z;have af:=qQ (HR.out.keep E);have aa:Hid (∀ t∈j,yQ y y.heap.size w.heap.size t.1 t.2.1):=fun t I=>(HI.out t I).at2 E;have ah:Hid (yQ y y.heap.size w.heap.size (.slice av A.length cv) A):=F _ D;have ai:=qQ (bt G E)
   have N:Hid (dZ w.heap.size (j.set i (.slice av A.length cv,A,k))):=by
    intro t I;rcases mI I with h|rfl
    ·exact M.out t h
    ·exact i7 (w:=y) (B:=y.heap.size) fun m hm=>F m (by show m<W.heap.size;omega)
   clear F z E k1 k2 k3 k4 k5 k6 g1 g2 g3 g4 g5 g6;go_wp2
   go_roundw
   case rel =>
    refine⟨i+1,j.set i (.slice av A.length cv,A,k),by go_num,h1,by simp[L],?_,af.out.set0 (by omega) _ A k,fun t I=>?_,bs (bs ai.out (vQ _) _) (vQ _) _,N⟩
    ·rw[d8,yO _ (by rw[yY];omega),HT.out,rX,yV HS.out];rfl
    ·have ao:yQ y y.heap.size w.heap.size t.1 t.2.1:=by
      rcases mI I with h|rfl
      ·exact aa.out t h
      ·exact ah.out
     have:=(ao.set (p:=⟨w.heap.size,i*2,none⟩) rfl (.slice av A.length cv)).set (p:=⟨w.heap.size,i*2+1,none⟩) rfl (int i64 k);simpa using this
   case measure=>simp[intOf];omega
  ·have au:i=ts.length:=by omega
   have R:rd j=rd ts:=by have:=HT.out;rwa [vD au,vD (by omega)] at this
   have HR:=qQ g;have HI:=qQ Y;have HD:=qQ R;have HU:=qQ L;clear g Y R L;go_wp2;go_ret;exact⟨.slice (some ⟨w.heap.size,0,none⟩) ts.length ts.length,j,rfl,⟨w.heap.size,0,ts.length,by rw[HU.out],by rw[HU.out];exact vQ _,by rw[HU.out];exact hl,vQ _,HR.out,HI.out⟩,HD.out,G,M.out⟩
structure Good (K S:List Pt):Prop where
 rise:cY K
 pos:tJ K
 wts:∀ o,wt K o=wt S o
 tots:tot K=tot S
 whence:∀ q∈K,∃ s∈S,s.1=q.1
theorem Good.nil:Good [] []:=⟨List.Pairwise.nil,by intro p h;simp at h,fun _=>rfl,rfl,by intro p h;simp at h⟩
theorem Good.zero {K S:List Pt}{p:Pt}(h:Good K S)(a:p.2=0):Good K (S++[p]):=by
 refine⟨h.rise,h.pos,fun o=>?_,?_,fun q hq=>?_⟩
 ·rw[cP,h.wts,dU,a];simp
 ·rw[uM,h.tots,xY,a];simp
 ·obtain⟨s,g,e⟩:=h.whence q hq;exact⟨s,by simp[g],e⟩
theorem Good.add {K S:List Pt}{q p:Pt}(h:Good (K++[q]) S)(l:0<p.2)(i:q.1=p.1):Good (K++[(q.1,q.2+p.2)]) (S++[p]):=by
 have j:=yN.1 h.rise;refine⟨yN.2 ⟨j.1,by simp,fun a ha b hb=>?_⟩,fun r hr2=>?_,fun o=>?_,?_,fun r hr2=>?_⟩
 ·simp at hb;subst hb;exact j.2.2 a ha q (by simp)
 ·rcases aV.1 hr2 with g|g
  ·exact h.pos r (by simp[g])
  ·simp at g;subst g;have:=h.pos q (by simp);show 0<q.2+p.2;omega
 ·have:=h.wts o
  simp only[cP,dU,cjX,i] at *
  split <;> simp_all <;> omega
 ·have:=h.tots
  simp only[uM,xY,cjJ] at *
  omega
 ·rcases aV.1 hr2 with g|g
  ·obtain⟨s,k,e⟩:=h.whence r (by simp[g]);exact⟨s,by simp[k],e⟩
  ·simp at g;subst g;exact⟨p,by simp,i.symm⟩
theorem Good.app {K S:List Pt}{p:Pt}(h:Good K S)(j:0<p.2)(i:∀ q∈K,yJ q.1 p.1):Good (K++[p]) (S++[p]):=by
 refine⟨yN.2 ⟨h.rise,by simp,fun a ha b hb=>?_⟩,fun r hr2=>?_,fun o=>?_,?_,fun r hr2=>?_⟩
 ·simp at hb;subst hb;exact i a ha
 ·rcases aV.1 hr2 with g|g
  ·exact h.pos r g
  ·simp at g;subst g;exact j
 ·rw[cP,cP,h.wts]
 ·rw[uM,uM,h.tots]
 ·rcases aV.1 hr2 with g|g
  ·obtain⟨s,k,e⟩:=h.whence r g;exact⟨s,by simp[k],e⟩
  ·simp at g;subst g;exact⟨r,by simp,rfl⟩
theorem Good.below {K S:List Pt}{q p:Pt}(h:Good (K++[q]) S)(l:∀ s∈S,¬ yJ p.1 s.1)(g:q.1≠p.1):∀ r∈K++[q],yJ r.1 p.1:=by
 have i:yJ q.1 p.1:=by
  obtain⟨s,a,j⟩:=h.whence q (by simp);have:=l s a;rw[j] at this;rcases bP q.1 p.1 with c|c|c
  ·exact c
  ·exact absurd c g
  ·exact absurd c this
 intro r k;rcases aV.1 k with a|a
 ·exact wK ((yN.1 h.rise).2.2 r a q (by simp)) i
 ·simp at a;subst a;exact i
theorem djJ {l k:List Pt}(h:l.Perm k):tot l=tot k:=by
 induction h with
 | nil=>rfl
 | cons x _ ih=>simp only[xY,ih]
 | swap x y l=>simp only[xY];omega
 | trans _ _ h1 h2=>exact h1.trans h2
theorem tJ.le_tot {l:List Pt}(h:Nn l){p:Pt}(a:p∈l):p.2<=tot l:=by
 induction l with
 | nil=>cases a
 | cons q l ih =>
  have g:Nn l:=fun r hr=>h r (by simp[hr]);have i:=g.tot_nn;have j:=h q (by simp);rw[xY];rcases kJ.1 a with rfl|a
  ·omega
  ·have:=ih g a;omega
theorem dkQ (ts:List Tr)(i:Nat):rd (ts.take i)=(rd ts).take i:=by simp[rd,List.map_take]
theorem uG (a b:List Tr):rd (a++b)=rd a++rd b:=by simp[rd]
theorem i8 {a b:List Tr}(h:a.Perm b):(rd a).Perm (rd b):=h.map _
theorem l8 {α:Type}{l k:List α}(h:l.drop i=k.drop i):l.drop (i+1)=k.drop (i+1):=by
 rw[<-List.drop_drop (i:=1) (j:=i),<-List.drop_drop (i:=1) (j:=i),h]
theorem m8 {α:Type}{l k:List α}(h:l.drop i=k.drop i):l[i]? = k[i]?:=by
 have:=congrArg (fun l=>l[0]?) h;simpa using this
theorem dkX (p:Option Addr)(cap:Nat)(a:Value)(w:World):Calls prog 230 #[.slice p 0 cap,a] w fun e w'=>e=.returned (.tuple #[])/\w' = w :=
 AnyF.slices_SortFunc_none { Tryz.sortP with } p cap a w
theorem Row.parts {vs:List Tr}(h:Row w b 0 vs)(hB:B<=w.heap.size)(a:∀ t∈vs,yQ w B B t.1 t.2.1)(g:k<=vs.length)(hc:k<=cap)(j:k<=1073741824) :
  uX w w.heap.size (.slice (some ⟨b,0,none⟩) k cap) (vs.take k):=by
 have e:(vs.take k).length=k:=by simp;omega
 refine⟨some ⟨b,0,none⟩,cap,by rw[e],by omega,by omega,fun t ht=>(a t (pG ht)).mono hB (.inr (by omega)),fun _=>⟨b,0,rfl,h.lt,fun i t ht=>h.cells i t ?_⟩⟩;rw[vN] at ht;split at ht
 ·exact ht
 ·cases ht
theorem dkZ (B a g:Nat)(u v:Value)(k l:Int)(x y:List Int)(w:World)(hB:B<=w.heap.size)(i:yQ w B a u x)(j:yQ w B g v y)(r:Int)(h:iZ x y=r) :
  Calls prog 210 #[.agg #[u,int i64 k],.agg #[v,int i64 l]] w (iQ w (int i64 r)) :=
 (mN B a g u v k l x y w hB i j r h).mono fun _ _ ⟨he,_,_,hw⟩=>⟨he,hw▸bal (ba _ _) _⟩
def bfQ (us:List Tr):Prop:=us.Pairwise (fun a b=>¬ yJ b.2.1 a.2.1)
structure Gl (w:World) (B g cap:Nat) (us:List Tr) (i k:Nat) (vs:List Tr) (wr:World):Prop where
 ki:k<=i
 len:vs.length=us.length
 rest:vs.drop i=us.drop i
 good:Good (rd (vs.take k)) (rd (us.take i))
 row:Row wr g 0 vs
 ints:∀ t∈vs,yQ w B B t.1 t.2.1
 bel:xQ w wr
theorem Gl.zero {us vs:List Tr}{t:Tr}(h:Gl w B g cap us i k vs wr)(l:us[i]? = some t)(j:t.2.2=0)(a:xQ wr w'):Gl w B g cap us (i+1) k vs w':=by
 refine⟨by have:=h.ki;omega,h.len,l8 h.rest,?_,h.row.keep a,h.ints,bt h.bel a⟩;rw[rX,l,uG];exact h.good.zero j
theorem Gl.last {us vs:List Tr}(h:Gl w B g cap us i (k+1) vs wr)(hi:i<=us.length) :
  ∃ q,vs[k]? = some q/\vs.take (k+1)=vs.take k++[q]:=by
 have:=h.ki;have:=h.len;obtain⟨q,a⟩:=fX (l:=vs) (i:=k) (by omega);exact⟨q,a,by rw[rX,a];rfl⟩
theorem Gl.sum {us vs:List Tr}{t q:Tr}(h:Gl w B g cap us i (k+1) vs wr)(a:Nn (rd us))(j:us[i]? = some t)(m:vs[k]? = some q)(C:tot (rd us)<=4611686018427387904) :
  0<=q.2.2+t.2.2/\q.2.2+t.2.2<=4611686018427387904:=by
 have e:vs.take (k+1)=vs.take k++[q]:=by rw[rX,m];rfl
 have o:q.2.2<=tot (rd (vs.take (k+1))):=tJ.le_tot (Nn.of_pos h.good.pos) (p:=q.2) (by rw[e,uG];simp[rd]);have v:0<q.2.2:=h.good.pos q.2 (by rw[e,uG];simp[rd]);have l:=h.good.tots;have y:=sT (yV j);have z:=a.tot_take_le (i+1);have A:0<=t.2.2:=a t.2 (qX (yV j));rw[dkQ us i] at l;omega
theorem Gl.add {us vs:List Tr}{t q:Tr}(h:Gl w B g cap us i (k+1) vs wr)(hi:i<us.length)(A:us[i]? = some t)(m:0<t.2.2)(l:vs[k]? = some q)(y:q.2.1=t.2.1)
  (a:Row w' g 0 (vs.set k (q.1,q.2.1,q.2.2+t.2.2))) (v:xQ w w'):Gl w B g cap us (i+1) (k+1) (vs.set k (q.1,q.2.1,q.2.2+t.2.2)) w':=by
 have C:=h.ki;have z:=h.len;refine⟨by omega,by simpa using z,?_,?_,a,fun u hu=>?_,v⟩
 ·rw[List.drop_set_of_lt (by omega)]
  exact l8 h.rest
 ·rw[yO _ (by omega),rX (i:=i),A,uG,uG]
  have j:=h.good;rw[show vs.take (k+1)=vs.take k++[q] by rw[rX,l];rfl,uG] at j;exact j.add (q:=q.2) (p:=t.2) m y
 ·rcases mI hu with o|rfl
  ·exact h.ints u o
  ·exact h.ints q (qX l)
theorem Gl.app {us vs:List Tr}{t:Tr}(h:Gl w B g cap us i k vs wr)(hi:i<us.length)(N:us.Pairwise (fun a b=>¬ yJ b.2.1 a.2.1))(D:us[i]? = some t)(H:0<t.2.2)
  (A:∀ q,0<k->vs[k - 1]? = some q->q.2.1≠t.2.1) (v:Row w' g 0 (vs.set k t)) (J:xQ w w'):Gl w B g cap us (i+1) (k+1) (vs.set k t) w':=by
 have O:=h.ki;have M:=h.len;have y:=(fQ.1 D).2;refine⟨by omega,by simpa using M,?_,?_,v,fun u E=>?_,J⟩
 ·rw[List.drop_set_of_lt (by omega)]
  exact l8 h.rest
 ·rw[yO _ (by omega),rX (i:=i),D,uG,uG]
  refine h.good.app H ?_
  show ∀ q∈rd (vs.take k),yJ q.1 t.2.1
  have m:∀ s∈rd (us.take i),¬ yJ t.2.1 s.1:=by
   intro s C;obtain⟨u,E,rfl⟩:=iJ.1 C;obtain⟨j,L,o⟩:=List.mem_iff_getElem.1 E;have z:j<i:=by simp at L;omega
   have:=List.pairwise_iff_getElem.1 N j i (by omega) hi z;rw[y] at this;rw[List.getElem_take] at o;rw[o] at this;exact this
  cases k with
  | zero=>simp[rd]
  | succ k =>
   obtain⟨q,G⟩:=fX (l:=vs) (i:=k) (by omega);have F:=h.good;rw[show vs.take (k+1)=vs.take k++[q] by rw[rX,G];rfl,uG] at F ⊢;exact F.below (q:=q.2) (p:=t.2) m (A q (by omega) G)
 ·rcases mI E with I|rfl
  ·exact h.ints u I
  ·refine h.ints _ (qX (i:=i) ?_)
   rw[m8 h.rest];exact D
theorem dkJ (B:Nat)(v:Value)(ts:List Tr)(w:World)(hB:B<=w.heap.size)(hp:uX w B v ts)(hn:Nn (rd ts))(hM:tot (rd ts)<=4611686018427387904)(r:List Pt)(hr:gath (rd ts)=r) :
  Calls prog 208 #[v] w fun e w'=>∃ v' y,e=.returned v'/\Own w' w.heap.size v' y/\rd y=r/\xQ w w'/\dZ w.heap.size y:=by
 have HP:Hid (uX w B v ts):=hp;obtain⟨i0,ck,ct,cu,cv⟩:=pZ gM;obtain⟨a,c,rfl,hc,hl,hI,_⟩:=hp;have HH:Hid (Nn (rd ts)/\tot (rd ts)<=4611686018427387904/\gath (rd ts)=r/\∀ t∈ts,yQ w B B t.1 t.2.1):=⟨hn,hM,hr,hI⟩;clear hn hM hr hI;go_enter func208,ntmps208;go_wp2_with fail;refine(diZ B _ ts w hB HP.out).mono ?_;rintro e N ⟨v',rfl,A,⟨h0,rfl⟩|⟨g,cap,rfl,b6,hg,M⟩⟩
 ·subst h0
  have L:r=[]:=by rw[<-HH.out.2.2.1];rfl
  have cf:Hid (r=[]):=L;have kc:=fun W=>beJ 0 (.slice none 0 0) [] W (dQ _) (yH W 0);clear L HP HH;go_wp2_with (go_at_call 230;refine(dkX _ _ _ _).mono ?_;rintro e w2 ⟨rfl,rfl⟩)
  go_loopw [4,16] (fun kv s wr=>kv=.slice none 0 0/\s=int i64 0/\wr=w2) (fun _ _ _=>0)
  case atStart=>exact⟨rfl,rfl,rfl⟩
  case round =>
   obtain⟨rfl,rfl,rfl⟩:=hrel;go_wp2_with fail;refine(kc _).mono ?_;rintro e w3 ⟨v',y,rfl,hO,Y,T,V⟩;obtain⟨b',o',c',rfl,R⟩:=hO;have HO:Hid (Own w3 w.heap.size (.slice (some ⟨b',o',none⟩) y.length c') y):=Own.mono ⟨b',o',c',rfl,R⟩ A.size;have HD:Hid (rd y=r):=by rw[Hid,Y,cf.out];rfl
   have HB:Hid (xQ w w3):=bt A T;have ag:Hid (dZ w.heap.size y):=V.mono A.size;clear R Y T A kc V;go_wp2;go_ret;exact⟨_,y,rfl,HO.out,HD.out,HB.out,ag.out⟩
 have az:∀ t∈ts,yQ N B B t.1 t.2.1:=fun t ht=>(HH.out.2.2.2 t ht).at hB A;have Z:=djQ B g cap ts N (by omega) M az hl;have HS:Hid (Calls prog 230 #[.slice (some ⟨g,0,none⟩) ts.length cap,.func (.func 210) #[] #[]] N fun e w'=>e=.returned (.tuple #[])/\∃ y,y.Perm ts/\bfQ y/\Row w' g 0 y/\Below g N w'):=Z;clear Z az M;go_wp2_with fail;refine HS.out.mono ?_;rintro e w2 ⟨rfl,y,C,af,M,b5⟩;have cq:y.length=ts.length:=C.length_eq;have P:xQ w w2:=A.trans (b5.mono hg)
 have HQ:Hid (y.Perm ts/\bfQ y/\Nn (rd y)/\tot (rd y)<=4611686018427387904) :=
  ⟨C,af,fun p hp=>HH.out.1 p ((i8 C).mem_iff.1 hp),by rw[djJ (i8 C)];exact HH.out.2.1⟩
 have c9:Hid (Gl w B g cap y 0 0 y w2):=⟨vQ _,rfl,rfl,by simpa [rd] using Good.nil,M,fun t ht=>HH.out.2.2.2 t (C.mem_iff.1 ht),P⟩;rw[<-cq] at b6 hl ⊢;clear C af M b5 HS P HP A;go_wp2
 go_loopw [4,16] (fun kv s wr=>∃ (i k:Nat) (H:List Tr),kv=.slice (some ⟨g,0,none⟩) k cap/\s=int i64 (i:Int)/\i<=y.length/\Gl w B g cap y i k H wr) (fun _ s _=>y.length - (intOf s).toNat)
 case atStart=>exact⟨0,0,y,rfl,rfl,dQ _,c9.out⟩
 case round =>
  obtain⟨i,k,H,rfl,rfl,cn,O⟩:=hrel;have dr:=O.ki;have du:=O.len;have E:Hid (Gl w B g cap y i k H wr):=O;have dt:=O.row.lt;by_cases h1:i<y.length
  ·obtain⟨⟨s,m,z⟩,hs⟩:=fX h1
   have al:H[i]? = some (s,m,z):=by rw[m8 O.rest];exact hs
   obtain⟨F,G,he,_⟩:=O.ints _ (qX al);simp only at he;subst he;obtain⟨c1,c2⟩:=O.row.cells i _ al;simp only[vX] at c1 c2;have HT:Hid (y[i]? = some (.slice F m.length G,m,z)):=hs;have dw:0<=z:=HQ.out.2.2.1 (m,z) (qX (yV hs));clear hs al O;by_cases h0:z=0
   ·subst h0
    go_wp2
    go_roundw
    case rel=>exact⟨i+1,k,H,rfl,by go_num,h1,E.out.zero HT.out rfl (ba _ _)⟩
    case measure=>simp[intOf];omega
   ·have dl:(z == 0)=false:=by simp[h0]
    have am:0<z:=by omega
    obtain⟨W,hW⟩:∃ W,wr.alloc (.cells #[.slice F m.length G,int i64 z] 186)=W:=⟨_,rfl⟩;have HW:Hid (xQ wr W):=hW▸ba wr _;have dm:W.heap.size=wr.heap.size+1:=by rw[<-hW];simp
    have p1:W.cell? ⟨wr.heap.size,0,none⟩=some (.slice F m.length G):=by rw[<-hW];simp[go_sem]
    have p2:W.cell? ⟨wr.heap.size,1,none⟩=some (int i64 z):=by rw[<-hW];simp[go_sem]
    have cb:Hid (yQ w B B (.slice F m.length G) m):=E.out.ints (.slice F m.length G,m,z) (qX (i:=i) (by rw[m8 E.out.rest];exact HT.out));cases k with
    | zero =>
     go_wp2_with fail;clear hW;go_quiet (fail);obtain⟨Q,S⟩:∃ Q,W.drewN nq=Q:=⟨_,rfl⟩;have I:Hid (xQ wr Q):=S▸below_drewN HW.out nq;have q1:Q.cell? ⟨wr.heap.size,0,none⟩=some (.slice F m.length G):=by rw[<-S];exact p1
     have q2:Q.cell? ⟨wr.heap.size,1,none⟩=some (int i64 z):=by rw[<-S];exact p2
     rw[S];clear S p1 p2;have J:Hid (Row Q g 0 H):=E.out.row.keep I.out;go_wp2_with (at_builtin;refine wpList_append_arg _ rfl (.tmp 47) (.tmp 49) 92 rfl 186 i0 (.agg #[.slice none 0 0,int i64 0]) 2 32 underlying92 ck ct cu cv rfl (by decide) g 0 0 cap (flat (H.take 0)) rfl ?q1 ?q2 ⟨Q.heap.size,0,none⟩ 1 1 [.slice F m.length G,int i64 z] rfl ?q3 ?q4 ?q5 ?q6 ?q7 ?q8 ?q9 ?q10)
     case q1=>rw[cL];simp <;> omega
     case q2 =>
      intro j u X
      have cj:gD (Q.alloc (.cells #[.slice F m.length G,int i64 z] 186)) g 0 (H.take 0):=by
       intro j' t' aa;rw[vN] at aa;split at aa
       ·exact(J.out.keep (ba _ _)).cells j' t' aa
       ·cases aa
      exact o7 cj j u X
     case q3=>rfl
     case q4 =>
      intro j u X
      match j,X with
      | 0,X=>simp at X;subst X;simp[go_sem,Addr.add]
      | 1,X=>simp at X;subst X;simp[go_sem,Addr.add]
     case q5=>intro u hu;simp at hu;rcases hu with rfl|rfl <;> rfl
     case q6 =>
      intro _ j X;have ak:=J.out.keep (ba Q (.cells #[.slice F m.length G,int i64 z] 186));have hz:=ak.cells.len_cell (i:=0) (by omega)
      match j,X with
      | 0,_=>exact⟨by simpa using hz.1,by simpa using ak.thaw (0*2) (by omega)⟩
      | 1,_=>exact⟨by simpa using hz.2,by simpa using ak.thaw (0*2+1) (by omega)⟩
     case q7=>simp[maxLen] <;> omega
     case q8=>omega
     case q10=>intro h;exact absurd h (by omega)
     intro _;have D:=(J.out.keep (ba Q (.cells #[.slice F m.length G,int i64 z] 186))).setP (i:=0) (by omega) (.slice F m.length G,m,z)
     have HF:Hid (Gl w B g cap y (i+1) (0+1) (H.set 0 (.slice F m.length G,m,z)) ((Q.alloc (.cells #[.slice F m.length G,int i64 z] 186)).setCells g (0+0*2) [.slice F m.length G,int i64 z])) :=
      E.out.app h1 HQ.out.2.1 HT.out am (fun _ h=>absurd h (by omega)) D (bs (bs (bal (bt E.out.bel I.out) _) (by simp;omega) _) (by simp;omega) _)
     clear D;go_wp2
     go_roundw
     case rel=>exact⟨i+1,0+1,_,by go_num,by go_num,h1,HF.out⟩
     case measure=>simp[intOf];omega
    | succ k =>
     obtain⟨⟨sl,xl,kl⟩,hq,co⟩:=E.out.last cn;obtain⟨la,lc,he,_⟩:=E.out.ints _ (qX hq);simp only at he;subst he;have ca:Hid (yQ w B B (.slice la xl.length lc) xl):=E.out.ints _ (qX hq);have an:=E.out.row.keep HW.out;obtain⟨d1,d2⟩:=an.cells k _ hq;have d3:=an.thaw (k*2+1) (by omega);simp only[vX] at d1 d2 d3;have bb:=E.out.sum HQ.out.2.2.1 HT.out hq HQ.out.2.2.2;simp only at bb;have ah:Hid (H[k]? = some (.slice la xl.length lc,xl,kl)):=hq;obtain⟨r1,HC⟩:∃ r1,Hid (iZ xl m=r1):=⟨_,rfl⟩;have aj:g<W.heap.size:=by omega
     have bk:wr.heap.size<W.heap.size:=by omega
     have z1:(0:Int)<=(k:Int):=by omega
     have z2:(k:Int)<(k:Int)+1:=by omega
     clear hq co an;go_wp2_with fail;clear hW
     go_region_held3 (fun w'=>xQ W w'/\w'.cell? ⟨wr.heap.size,0,none⟩=some (.slice F m.length G)/\w'.cell? ⟨wr.heap.size,1,none⟩=some (int i64 z)/\w'.cell? ⟨g,k*2,none⟩=some (.slice la xl.length lc)/\w'.cell? ⟨g,k*2+1,none⟩=some (int i64 kl))
      ((go_split_ands;refine⟨?_,?_,?_,?_,?_⟩ <;> first|(simp[go_sem, *];done)|(exact(uQ _ _).drew)|(exact bt (uQ _ _).drew A)))
      ((go_at_call 210;refine(dkZ B B B _ _ _ _ xl m _ ?_ ?_ ?_ r1 HC.out).mono ?_;(have:=HW.out.size;show B<=W.heap.size;have:=E.out.bel.size;omega);(exact ca.out.at hB (bt E.out.bel HW.out.drew));(exact cb.out.at hB (bt E.out.bel HW.out.drew));rintro x1 N ⟨rfl,A⟩;obtain⟨U,b8⟩:=bcell A;have db:=A.size;have k1:N.cell? ⟨wr.heap.size,0,none⟩=some (.slice F m.length G):=(U _ _ bk).trans p1;have k2:N.cell? ⟨wr.heap.size,1,none⟩=some (int i64 z):=(U _ _ bk).trans p2;have k3:N.cell? ⟨g,k*2,none⟩=some (.slice la xl.length lc):=(U _ _ aj).trans d1;have k4:N.cell? ⟨g,k*2+1,none⟩=some (int i64 kl):=(U _ _ aj).trans d2;have k5:N.frozen? ⟨g,k*2+1,none⟩=false:=(b8 _ _ aj).trans d3;clear U b8))
     rename_i hHeld;clear hHeld p1 p2 d1 d2 d3;have I:Hid (xQ wr N):=bt HW.out.drew A;have dq:g<N.heap.size:=by have:=I.out.size;omega
     clear A;by_cases L:r1=0
     ·have cr:Hid (xl=m):=(tK _ _).1 (HC.out.trans L)
      have cg:Hid (Row N g 0 H):=E.out.row.keep I.out;subst L;go_wp2_with fail
      go_region
      have HF:Hid (Gl w B g cap y (i+1) (k+1) (H.set k (.slice la xl.length lc,xl,kl+z)) (N.setCell ⟨g,k*2+1,none⟩ (int i64 (kl+z))).drew):=by
       have D:=cg.out.setW ah.out (kl+z);simp only[vX] at D;exact E.out.add h1 HT.out am ah.out cr.out (D.keep (uQ _ _).drew) (bs (bt E.out.bel I.out) (by simp;omega) _).drew
      clear k1 k2 k3 k4 k5;go_wp2
      go_roundw
      case rel=>exact⟨i+1,k+1,_,by go_num,by go_num,h1,HF.out⟩
      case measure=>simp[intOf];omega
     ·have da:(r1 == 0)=false:=by simpa using L
      have cc:Hid (∀ q:Tr,0<k+1->H[k+1 - 1]? = some q->q.2.1≠m):=by
       intro q _ hq;rw[show k+1 - 1=k by omega,ah.out] at hq;simp only[aZ] at hq;subst hq;intro he;exact L (by rw[<-HC.out];exact(tK _ _).2 he)
      clear L k3 k4 k5;have J:Hid (Row N g 0 H):=E.out.row.keep I.out;obtain⟨t1,bc⟩:=fX (l:=H) (i:=k+1) (by omega);obtain⟨e1,e2⟩:=J.out.cells _ _ bc;have e3:=J.out.thaw ((k+1)*2) (by omega);have e4:=J.out.thaw ((k+1)*2+1) (by omega);simp only[vX] at e1 e2 e3 e4;obtain⟨v1,bf⟩:∃ v1,t1.1=v1:=⟨_,rfl⟩;obtain⟨v2,bg⟩:∃ v2,t1.2.2=v2:=⟨_,rfl⟩;rw[bf] at e1;rw[bg] at e2;clear bc bf bg
      have HF:Hid (Gl w B g cap y (i+1) (k+1+1) (H.set (k+1) (.slice F m.length G,m,z)) (((N.setCell ⟨g,(k+1)*2,none⟩ (.slice F m.length G)).setCell ⟨g,(k+1)*2+1,none⟩ (int i64 z)).alloc (.cells #[.slice F m.length G,int i64 z] 186))) :=
       E.out.app h1 HQ.out.2.1 HT.out am cc.out ((J.out.set0 (by omega) (.slice F m.length G) m z).keep (ba _ _)) (bal (bs (bs (bt E.out.bel I.out) (by simp;omega) _) (by simp;omega) _) _)
      go_wp2
      go_roundw
      case rel=>exact⟨i+1,k+1+1,_,by go_num,by go_num,h1,HF.out⟩
      case measure=>simp[intOf];omega
  ·have cm:i=y.length:=by omega
   have hK:rd (H.take k)=r:=by
    rw[<-HH.out.2.2.1];have a9:=O.good;rw[cm,bU] at a9;exact(eE HH.out.1 a9.rise a9.pos fun o=>(a9.wts o).trans (cjZ (i8 HQ.out.1) o)).symm
   have HK:Hid (rd (H.take k)=r):=hK;have hP:=O.row.parts (cap:=cap) (k:=k) (bQ hB O.bel.size) (fun t ht=>(O.ints t ht).at hB O.bel) (by omega) (by omega) (by omega);have kc:=beJ _ _ _ wr (vQ _) hP;have P:=O.bel;clear O hK hP;go_wp2_with fail;refine kc.mono ?_;rintro e w3 ⟨v',a6,rfl,hO,Y,T,V⟩;obtain⟨b',o',c',rfl,R⟩:=hO;have HO:Hid (Own w3 w.heap.size (.slice (some ⟨b',o',none⟩) a6.length c') a6):=Own.mono ⟨b',o',c',rfl,R⟩ P.size;have HD:Hid (rd a6 = r):=by rw[Hid,Y,HK.out]
   have HB:Hid (xQ w w3):=bt P T;have ag:Hid (dZ w.heap.size a6):=V.mono P.size;clear R Y T P kc V;go_wp2;go_ret;exact⟨_,a6,rfl,HO.out,HD.out,HB.out,ag.out⟩
