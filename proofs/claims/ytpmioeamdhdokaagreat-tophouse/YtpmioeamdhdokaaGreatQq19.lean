import Derived.Test.YtpmioeamdhdokaaGreatQq18
import Derived.Lib.AppendZerosOnto
import Derived.Deep.Upon
open Go.Proofs.Tryz
set_option linter.unusedSimpArgs false
set_option maxHeartbeats 16000000
set_option maxRecDepth 100000
namespace Go.Proofs.YtpmioeamdhdokaaGreat
variable {w w' wr:World} {B base c i n size:Nat} {s v:Value} {a:Option Addr} {o x y:List Int} {e:TypeId} {xs:List Value} {k:Int}
section
open Go.RowKit Go.Shelf Ds
theorem fcX (d:Nat)(fn:Fn)(xs ys:Array Value)(w:World):(Op.equalIn (d+1) 179 (.func fn xs ys) .nilFunc).run prog w=.ok false w:=by
 simp only[Op.equalIn,qT,aE underlying179,yK];rfl
theorem fcZ (fn:Fn)(xs ys:Array Value)(w:World):(Op.equal 179 (.func fn xs ys) .nilFunc).run prog w=.ok false w:=fcX 9999 fn xs ys w
theorem fcJ (fn:Fn)(xs ys:Array Value)(w:World):(binOp .neq 179 (.func fn xs ys) .nilFunc).run prog w=.ok (.bool true) w:=by
 simp only[binOp,qT,fcZ,yK];rfl
abbrev Fl:=Vl × (Value × List Tr)
def jD (w:World) (B:Nat) (v:Value) (fs:List Fl):Prop :=
 ∃ a c,v=.slice a fs.length c/\fs.length<=c/\fs.length<=1073741824/\(∀ f∈fs,jQ w B B f.1.1 f.1.2/\fQ w B f.2.1 f.2.2) /\
  (fs≠[]->∃ b o,a=some ⟨b,o,none⟩/\b<B/\∀ i f,fs[i]? = some f->w.cell? ⟨b,o+i*2,none⟩=some f.1.1/\w.cell? ⟨b,o+i*2+1,none⟩=some f.2.1)
def fd (fs:List Fl):List (List Int × List Pt):=fs.map fun f=>(f.1.2,rd f.2.2)
theorem jD.keep {fs:List Fl}(h:jD w B v fs)(hb:Below B w w'):jD w' B v fs:=by
 obtain⟨a,c,hv,hc,hl,hi,hx⟩:=h;refine⟨a,c,hv,hc,hl,fun t ht=>⟨(hi t ht).1.keep hb,(hi t ht).2.keep hb⟩,fun hne=>?_⟩;obtain⟨b,o,ha,hB,hcell⟩:=hx hne;exact⟨b,o,ha,hB,fun i z hz=>⟨(hb.cell (p:=⟨b,o+i*2,none⟩) hB).trans (hcell i z hz).1,(hb.cell (p:=⟨b,o+i*2+1,none⟩) hB).trans (hcell i z hz).2⟩⟩
theorem jD.at {fs:List Fl}(h:jD w B v fs)(hB:B<=w.heap.size)(hb:Below w.heap.size w w'):jD w' B v fs:=h.keep (hb.mono hB)
theorem jD.get {fs:List Fl}(hp:jD w B (.slice a n c) fs)(hB:B<=w.heap.size)(hbl:Below w.heap.size w wr)(h:i<fs.length) :
  ∃ b o sa sc xs ta tc ts,a=some ⟨b,o,none⟩/\b<w.heap.size/\fs[i]? = some ((.slice sa xs.length sc,xs),(.slice ta ts.length tc,ts))/\wr.cell? ⟨b,o+i*2,none⟩=some (.slice sa xs.length sc)/\wr.cell? ⟨b,o+i*2+1,none⟩=some (.slice ta ts.length tc) /\
   jQ wr B B (.slice sa xs.length sc) xs/\fQ wr B (.slice ta ts.length tc) ts:=by
 obtain⟨a',c',hv,hc,hl,hi,hx⟩:=hp;simp only[iZ] at hv;obtain⟨rfl,rfl,rfl⟩:=hv;obtain⟨b,o,ha,hb,hcell⟩:=hx (ne_of_lt h);obtain⟨⟨⟨s,xs⟩,⟨t,ts⟩⟩,hs⟩:=cX h;obtain⟨hI,hJ⟩:=hi _ (rQ hs);have hI2:=hI.at hB hbl;have hJ2:=hJ.at hB hbl;obtain⟨sa,sc,he,_⟩:=hI;obtain⟨ta,tc,he',_⟩:=hJ;simp only at he he';subst he he';have hlt:b<w.heap.size:=by omega
 exact⟨b,o,sa,sc,xs,ta,tc,ts,ha,hlt,hs,(hbl.cell (p:=⟨b,o+i*2,none⟩) hlt).trans (hcell i _ hs).1,(hbl.cell (p:=⟨b,o+i*2+1,none⟩) hlt).trans (hcell i _ hs).2,hI2,hJ2⟩
def aV:List (List Int × List Pt)->List Int->List Pt
 | [],o=>[(o,1)]
 | f::fs,o=>if f.1=o then f.2 else aV fs o
def pF (fs:List Fl) (i:Nat) (o:List Int):Prop:=aV (fd fs) o=aV (fd (fs.drop i)) o
theorem pF.step {fs:List Fl}{f:Fl}(h:pF fs i o)(hf:fs[i]? = some f)(hne:¬ f.1.2=o):pF fs (i+1) o:=by
 unfold pF at *
 rw[h,gJ (cQ.1 hf).1,(cQ.1 hf).2];simp only[fd,fV,aV];rw[xQ hne]
theorem pF.hit {fs:List Fl}{f:Fl}(h:pF fs i o)(hf:fs[i]? = some f)(he:f.1.2=o):aV (fd fs) o=rd f.2.2:=by
 unfold pF at *
 rw[h,gJ (cQ.1 hf).1,(cQ.1 hf).2];simp only[fd,fV,aV];rw[zQ he]
theorem pF.end {fs:List Fl}(h:pF fs i o)(hi:fs.length<=i):aV (fd fs) o=[(o,1)]:=by
 unfold pF at *
 rw[h,fY hi];rfl
theorem fdQ (B C:Nat)(v u:Value)(fs:List Fl)(xs:List Int)(w:World)(hB:B<=w.heap.size)(hC:C<=w.heap.size)(hp:jD w B v fs)(hu:jQ w C C u xs)(l:List Pt)(hr:aV (fd fs) xs=l) :
  Calls prog 85 #[v,u] w fun e w'=>∃ r us,e=.returned r/\rd us=l/\fQ w' w'.heap.size r us/\Below w.heap.size w w':=by
 have HP:=qQ hp;have HU:=qQ hu;have HR:=qQ hr;obtain⟨a,c,rfl,hc,hl,_⟩:=hp;obtain⟨ua,uc,rfl,_⟩:=hu;clear hr;go_enter func85,ntmps85;go_wp2
 go_loopw [9] (fun s wr=>∃ i:Nat,s=.int .i64 (i:Int)/\i<=fs.length/\Hid (pF fs i xs)/\Below w.heap.size w wr) (fun s _=>fs.length - (intOf s).toNat)
 case atStart=>exact⟨0,rfl,kQ _,by simp[Hid,pF],aQ _ _⟩
 case round =>
  obtain⟨i,rfl,hit,HN,hbl⟩:=hrel;have hbs:=hbl.size;by_cases h1:i<fs.length
  ·obtain⟨b,o,sa,sc,gs,ta,tc,ts,rfl,hb,hs,d1,d2,hI,hJ⟩:=HP.out.get hB hbl h1
   have HS:=qQ hs;have HI:=qQ hI;have HJ:=qQ hJ;have hb1:Below wr.heap.size wr (wr.alloc (.cells #[.slice sa gs.length sc,.slice ta ts.length tc] 122)):=ba _ _;obtain⟨r,hr⟩:∃ r,decide (gs=xs)=r:=⟨_,rfl⟩;have HE:=qQ hr;have kc:=e6Q wr.heap.size B C (.slice sa gs.length sc) (.slice ua xs.length uc) gs xs (wr.alloc (.cells #[.slice sa gs.length sc,.slice ta ts.length tc] 122)) ((HI.out.at (by omega) hb1).mono (by omega) (.inl rfl)) ((HU.out.at hC (bt hbl hb1)).mono (by omega) (.inl rfl)) r hr;clear hs hI hJ hr;go_wp2_with fail;refine kc.mono ?_;rintro e w2 ⟨rfl,q,rfl⟩;clear kc;cases r with
   | true =>
    have hy:rd ts=l:=by rw[<-HR.out];exact(HN.out.hit HS.out (qH HE.out)).symm
    have HY:=qQ hy;clear hy;go_wp2;go_ret;exact⟨_,ts,rfl,HY.out,(HJ.out.at (by omega) (below_drewN hb1 _)).mono (by simp;omega),below_drewN (bt hbl hb1) _⟩
   | false =>
    have HN2:=qQ (HN.out.step HS.out (yM HE.out));go_wp2
    go_roundw
    case rel=>exact⟨i+1,by go_num,h1,HN2,below_drewN (bt hbl hb1) _⟩
    case measure=>simp[intOf];omega
  ·have hy:[(xs,1)]=l:=by rw[<-HR.out];exact(HN.out.end (by omega)).symm
   have HY:=qQ hy;have HO:Hid (fQ (wr.alloc (.cells #[.slice ua xs.length uc,.int .i64 1] 82)) (wr.heap.size+1) (.slice (some ⟨wr.heap.size,0,none⟩) 1 1) [(.slice ua xs.length uc,xs,1)]):=jR wr C C _ xs 1 (by omega) (HU.out.at hC hbl);clear hy;go_wp2;go_ret;exact⟨_,[(.slice ua xs.length uc,xs,1)],rfl,HY.out,by simpa using HO.out,bal hbl _⟩
theorem fdX (B C bx:Nat)(v u:Value)(fs:List Fl)(xs:List Int)(w:World)(hB:B<=w.heap.size)(hC:C<=w.heap.size)(hc:w.cell? ⟨bx,0,none⟩=some v)(hp:jD w B v fs)(hu:jQ w C C u xs)(l:List Pt)(hr:aV (fd fs) xs=l) :
  Calls prog 84 #[u,.pointer (some ⟨bx,0,none⟩)] w fun e w'=>∃ r us,e=.returned (.tuple #[r,.int .i64 0])/\rd us=l/\fQ w' w'.heap.size r us/\Below w.heap.size w w':=by
 have kc:=fdQ B C v u fs xs w hB hC hp hu l hr;obtain⟨a,c,rfl,_⟩:=hp;obtain⟨ua,uc,rfl,_⟩:=hu;clear hr;go_enter func84,ntmps84;go_wp2_with fail;refine kc.mono ?_;rintro e w1 ⟨r,us,rfl,h1,h2,h3⟩;have H2:Hid (fQ w1 w1.heap.size r us/\rd us=l):=⟨h2,h1⟩;obtain⟨ra,rc,rfl,_⟩:=h2;clear h1 kc;go_wp2;exact uQ (v:=.tuple #[.slice ra us.length rc,.int .i64 0]) (by simp[results,results84,go_sem]) rfl ⟨_,us,rfl,H2.out.2,H2.out.1,h3⟩
theorem fdZ (B C bx by':Nat)(v u:Value)(fs:List Fl)(xs:List Int)(w:World)(hB:B<=w.heap.size)(hC:C<=w.heap.size)(hc:w.cell? ⟨bx,0,none⟩=some v)(hf:w.cell? ⟨by',0,none⟩=some (.func (.func 84) #[] #[.pointer (some ⟨bx,0,none⟩)]))(hp:jD w B v fs)(hu:jQ w C C u xs)(l:List Pt)(er:Int)(hr:pX (aV (fd fs) xs)=(l,er)) :
  Calls prog 149 #[u,.pointer (some ⟨by',0,none⟩)] w fun e w'=>∃ v' us,e=.returned (.tuple #[v',.int .i64 er])/\rd us=l/\oX w' w.heap.size v' us/\Below w.heap.size w w'/\sQ w.heap.size us:=by
 have kc:=fdX B C bx v u fs xs w hB hC hc hp hu _ rfl;have HR:=qQ hr;obtain⟨ua,uc,rfl,_⟩:=hu;clear hr;go_enter func149,ntmps149;go_wp2_with fail;refine kc.mono ?_;rintro e w1 ⟨r,us,rfl,h1,h2,h3⟩;have ko:=asJ w1.heap.size r us w1 (vQ _) h2 l er (by rw[h1];exact HR.out);obtain⟨ra,rc,rfl,_⟩:=h2;have hs:=h3.size;clear h1 kc;go_wp2_with fail;refine ko.mono ?_;rintro e w2 ⟨v2,xs2,rfl,k1,k2,k3,k4⟩;obtain⟨a2,c2,rfl⟩:=k2.slice;have H2:Hid (rd xs2=l/\oX w2 w.heap.size (.slice a2 xs2.length c2) xs2/\sQ w.heap.size xs2):=⟨k1,k2.mono hs,k4.mono hs⟩;clear k1 k2 k4 ko;go_wp2;exact uQ (v:=.tuple #[.slice a2 xs2.length c2,.int .i64 er]) (by simp[results,results149,go_sem]) rfl ⟨_,xs2,rfl,H2.out.1,H2.out.2.1,bt h3 k3,H2.out.2.2⟩
theorem b0X {l:List Pt}(h:(pX l).2=0):Dis (pX l).1:=by
 have:=dD (zI rfl h:pX l=((pX l).1,0));rw[this.1];exact this.2
def eG (l:List Pt) (F:List Int->List Pt):List Pt × Int:=if (pX l).2=0 then oF (fun x=>pX (F x)) l else ([],(pX l).2)
theorem fdJ (B bx:Nat)(v u:Value)(ts:List Tr)(fs:List Fl)(w:World)(hB:B<=w.heap.size)(hbx:bx<w.heap.size)(hc:w.cell? ⟨bx,0,none⟩=some u)(hp:fQ w B v ts)(hq:jD w B u fs)(l:List Pt)(er:Int)(hr:eG (rd ts) (aV (fd fs))=(l,er)) :
  Calls prog 83 #[v,.func (.func 84) #[] #[.pointer (some ⟨bx,0,none⟩)]] w fun e w'=>∃ v' us,e=.returned (.tuple #[v',.int .i64 er])/\rd us=l/\oX w' w.heap.size v' us/\Below w.heap.size w w'/\sQ w.heap.size us:=by
 obtain⟨⟨l1,e1⟩,ho⟩:∃ x,pX (rd ts)=x:=⟨_,rfl⟩;obtain⟨W,hW⟩:∃ W,w.alloc (.cells #[.func (.func 84) #[] #[.pointer (some ⟨bx,0,none⟩)]] 179)=W:=⟨_,rfl⟩;have HW:Hid (Below w.heap.size w W):=hW▸ba w _;have hWs:W.heap.size=w.heap.size+1:=by rw[<-hW];simp
 have cW:W.cell? ⟨w.heap.size,0,none⟩=some (.func (.func 84) #[] #[.pointer (some ⟨bx,0,none⟩)]):=by rw[<-hW];simp[go_sem]
 have cB:W.cell? ⟨bx,0,none⟩=some u:=(HW.out.cell (p:=⟨bx,0,none⟩) hbx).trans hc;have kc:=e5J B v ts W (by omega) (hp.at hB HW.out) l1 e1 ho;have HQ:=qQ (hq.at hB HW.out);have HR:Hid (eG (rd ts) (aV (fd fs))=(l,er)/\pX (rd ts)=(l1,e1)):=⟨hr,ho⟩;obtain⟨a,c,rfl,_⟩:=hp;obtain⟨ua,uc,rfl,_⟩:=hq;have hfn:=fun w=>fcJ (.func 84) #[] #[.pointer (some ⟨bx,0,none⟩)] w;clear hr ho;go_enter func83,ntmps83;go_wp2_with fail;clear hW;refine kc.mono ?_;rintro e w1 ⟨v1,us,rfl,h1,h2,h3⟩;obtain⟨b1,d1,rfl⟩:=h2.slice;have hs1:=h3.size;have b1w:Below w.heap.size w w1:=bt HW.out h3;by_cases h0:e1=0
 ·subst h0
  obtain⟨hle,hdis⟩:=dD HR.out.2;have hch:=HR.out.1;unfold eG at hch;rw[HR.out.2] at hch;simp only[uU] at hch;have hru:rd us=rd ts:=h1.trans hle
  have kch:=b0Q 149 (.pointer (some ⟨w.heap.size,0,none⟩)) (fun x=>pX (aV (fd fs) x)) w1.heap.size (.slice b1 us.length d1) us w1 (vQ _) h2.parts (by rw[hru];exact hdis) (enters_of func149 (by kernel_rfl) rfl)
   (fun W' u xs hbW hI _=>fdZ B W'.heap.size bx w.heap.size (.slice ua fs.length uc) u fs xs W' (by have:=hbW.size;omega) (vQ _) (((bt h3 hbW).cell (p:=⟨bx,0,none⟩) (by show bx<W.heap.size;omega)).trans cB) (((bt h3 hbW).cell (p:=⟨w.heap.size,0,none⟩) (by show w.heap.size<W.heap.size;omega)).trans cW) (HQ.out.at (by omega) (bt h3 hbW)) hI _ _ rfl)
   (fun p _ he=>b0X he) l er (by rw[hru];exact hch)
  clear hch hdis hle h1 h2 kc hru;go_wp2_with fail;refine kch.mono ?_;rintro e w2 ⟨v2,xs2,rfl,k1,k2,k3,k4⟩;obtain⟨a2,c2,rfl⟩:=k2.slice;have H2:Hid (rd xs2=l/\oX w2 w.heap.size (.slice a2 xs2.length c2) xs2/\sQ w.heap.size xs2):=⟨k1,k2.mono (by omega),k4.mono (by omega)⟩;clear k1 k2 kch k4;go_wp2;exact uQ (v:=.tuple #[.slice a2 xs2.length c2,.int .i64 er]) (by simp[results,results83,go_sem]) rfl ⟨_,xs2,rfl,H2.out.1,H2.out.2.1,bt b1w k3,H2.out.2.2⟩
 ·have h0':(e1 == 0)=false:=by simpa using h0
  have hm:=HR.out.1;unfold eG at hm;rw[HR.out.2] at hm;simp only[h0,qK,dQ] at hm;obtain⟨rfl,rfl⟩:=hm;clear h1 h2 kc;go_wp2;exact uQ (v:=.tuple #[.slice none 0 0,.int .i64 e1]) (by simp[results,results83,go_sem]) rfl ⟨_,[],rfl,rfl,.inl ⟨rfl,rfl⟩,b1w,sQ.nil _⟩
theorem feQ (B:Nat)(v u:Value)(ts:List Tr)(fs:List Fl)(w:World)(hB:B<=w.heap.size)(hp:fQ w B v ts)(hq:jD w B u fs)(l:List Pt)(er:Int)(hr:eG (rd ts) (aV (fd fs))=(l,er)) :
  Calls prog 41 #[v,u] w fun e w'=>∃ v' us,e=.returned (.tuple #[v',.int .i64 er])/\rd us=l/\oX w' w.heap.size v' us/\Below w.heap.size w w'/\sQ w.heap.size us:=by
 have HP:=qQ hp;have HQ:=qQ hq;have HR:=qQ hr;obtain⟨a,c,rfl,_⟩:=hp;obtain⟨ua,uc,rfl,_⟩:=hq;have kc:=fdJ B w.heap.size (.slice a ts.length c) (.slice ua fs.length uc) ts fs (w.alloc (.cells #[.slice ua fs.length uc] 120)) (by simp;omega) (by simp) (by simp[go_sem]) (HP.out.at hB (ba _ _)) (HQ.out.at hB (ba _ _)) l er HR.out;clear hr;go_enter func41,ntmps41;go_wp2_with fail;refine kc.mono ?_;rintro e w1 ⟨v1,us,rfl,h1,h2,h3,h4⟩;obtain⟨b1,d1,rfl⟩:=h2.slice;have hb:Below w.heap.size w w1:=bt (ba _ _) h3;clear kc;go_wp2;exact uQ (v:=.tuple #[.slice b1 us.length d1,.int .i64 er]) (by simp[results,results41,go_sem]) rfl ⟨_,us,rfl,h1,h2.mono (by simp),hb,h4.mono (by simp)⟩
end
section
open Go.RowKit Ds
theorem feX (n:Nat)(hn:n<=1073741824)(w:World) :
  Calls prog 217 #[.slice none 0 0,.int .i64 (n:Int)] w fun e w'=>∃ v',e=.returned v'/\w'.ownsRow w.heap.size 3 1 v' 0 []/\Below w.heap.size w w':=by
 obtain⟨i0,hi,hz0,hz1,hz2⟩:=rJ qO;by_cases h0:n=0
 ·subst h0
  go_enter func217,ntmps217;go_wp2;go_ret;exact⟨_,rfl,⟨rfl,.inl ⟨rfl,rfl⟩⟩,aQ _ _⟩
 ·have hrz:=fun ty=>Lib.run_append_nil_zeros (P:=prog) w 35 3 ty 3 i0 (.int .i64 0) .i64 .i64 underlying35 underlying3 hi hz0 n (by omega) (by omega) (by omega) (by rw[hz2];omega)
  have hGn:n<=grownCap w n 0 3:=grownCap_ge w _ _ _;have hGm:grownCap w n 0 3<=maxLen:=grownCap_le_maxLen w n 0 3 (by unfold maxLen;omega);obtain⟨G,hG⟩:∃ G,grownCap w n 0 3=G:=⟨_,rfl⟩;rw[hG] at hrz hGn hGm;obtain⟨cur,hcur⟩:∃ cur,Builtin.zeroCells (Value.int .i64 0).cells n++Builtin.zeroCells (Value.int .i64 0).cells (G - n)=cur:=⟨_,rfl⟩;rw[hcur] at hrz;have hcs:cur.size=G*1:=by rw[<-hcur];simp[Builtin.zeroCells,Value.cells];omega
  have HO:Hid ((w.drew.alloc (.cells cur 3)).ownsRow w.heap.size 3 1 (.slice (some ⟨w.heap.size,0,none⟩) 0 G) 0 []) :=
   ⟨rfl,.inr ⟨w.heap.size,G,cur,rfl,vQ _,qM w.drew _,kQ _,hGm,hcs,by simp⟩⟩
  have h1:¬ ((n:Int)<0):=by omega
  have h4:(0:Int)<(n:Int):=by omega
  have hG63:G<=9223372036854775807:=by unfold maxLen at hGm;omega
  clear hG hcur;go_enter func217,ntmps217;go_wp2_with (at_builtin;refine Lib.wpList_append_run _ rfl _ _ _ _ rfl _ _ rfl rfl _ _ (hrz _) ?_);go_ret;exact⟨_,rfl,HO.out,bal (aQ _ _).drew _⟩
theorem feZ (w:World)(ty:TypeId)(base a:Option Addr)(sLen sCap c:Nat)(hle:sLen<=sCap)(i0:TypeInfo)(hi:prog.info? 3=some i0)(hz1:i0.size=1):(Builtin.append_ #[35,35] ty #[.slice base sLen sCap,.slice a 0 c]).run prog w=.ok (.slice base sLen sCap) w:=by
 refine run_append_nothing (P:=prog) w 35 35 ty 3 i0 underlying35 hi base sLen sCap hle (.slice a 0 c) ?_;rw[hz1]
 have key:∀ W:World,(Builtin.firstCells 1 0 (.slice a 0 c)).run prog W=.ok ([]:List Value).toArray W:=by
  intro W;cases a with
  | none=>exact run_firstCells_none W 1 0 0 c
  | some ad=>exact run_firstCells_some W 1 0 ad 0 c [] rfl (by simp)
 exact⟨.inl ⟨3,underlying35⟩,fun w'=>by simp[Builtin.lenOf],key w,key w.drew,rfl,by simp⟩
theorem ajQ (h:w.ownsRow base e size (.slice a n c) n xs):n<=c:=by
 rcases h.2 with⟨h1,h2⟩|⟨g,cap,cur,h1,_,_,h2,_⟩
 ·simp only[iZ] at h1;omega
 ·simp only[iZ] at h1;omega
def cat (zs:List Vl):List Int:=zs.flatMap (·.2)
theorem nC {zs:List Vl}{z:Vl}(h:zs[i]? = some z):cat (zs.take (i+1))=cat (zs.take i)++z.2:=by
 unfold cat;rw[gZ,h];simp
theorem feJ (C:Nat)(v:Value)(zs:List Vl)(w:World)(hC:C<=w.heap.size)(hp:oL w C v zs)(hz:zs.length<=1073741824)(hs:(cat zs).length<=1073741824) :
  Calls prog 146 #[v] w fun e w'=>∃ v',e=.returned v'/\(∀ m,m<w.heap.size->jQ w' w'.heap.size m v' (cat zs))/\Below w.heap.size w w':=by
 have HP:Hid (oL w C v zs):=hp;obtain⟨a,c,rfl,hcc,_,_⟩:=hp;obtain⟨i0,hi,hz0,hz1,hz2⟩:=rJ qO
 have hlen:∀ i,(cat (zs.take i)).length<=1073741824:=by
  intro i;have e:cat zs=cat (zs.take i)++cat (zs.drop i):=by unfold cat;rw[<-List.flatMap_append,oS]
  rw[e,bJ] at hs;omega
 have HLN:Hid (∀ i,(cat (zs.take i)).length<=1073741824):=hlen;clear hlen;go_enter func146,ntmps146;go_wp2
 go_loopw [3,11] (fun s u wr=>∃ i n:Nat,u=.int .i64 (i:Int)/\s=.int .i64 (n:Int)/\i<=zs.length/\n<=1073741824/\Hid ((cat (zs.take i)).length=n)/\Below w.heap.size w wr) (fun _ u _=>zs.length - (intOf u).toNat)
 case atStart=>exact⟨0,0,rfl,rfl,kQ _,by omega,by simp[Hid,cat],aQ _ _⟩
 case round =>
  obtain⟨i,n,rfl,rfl,hit,hn,HN,hbl⟩:=hrel;by_cases h1:i<zs.length
  ·obtain⟨b,o,sa,sc,xs,rfl,hb,hsg,d1,hI⟩:=HP.out.get hC hbl h1
   have hn2:n+xs.length<=1073741824:=by
    have h5:=HLN.out (i+1);rw[nC hsg,bJ,HN.out] at h5;exact h5
   have HN2:Hid ((cat (zs.take (i+1))).length=n+xs.length):=by rw[Hid,nC hsg,bJ,HN.out]
   have hneg:¬ ((n:Int)+(xs.length:Int)<0):=by omega
   clear hsg hI;go_wp2
   go_roundw
   case rel=>exact⟨i+1,n+xs.length,by go_num,by go_num,h1,hn2,HN2,hbl⟩
   case measure=>simp[intOf];omega
  ·have kg:=feX n hn wr
   go_wp2_with fail;refine kg.mono ?_;rintro e w1 ⟨v1,rfl,ho1,hb1⟩;obtain⟨va,vc,rfl⟩:=bF ho1;have b1:Below w.heap.size w w1:=bt hbl hb1;have HO1:Hid (w1.ownsRow w.heap.size 3 1 (.slice va 0 vc) 0 []):=⟨ho1.1,ho1.2.imp id fun⟨g,cap,cur,h1,h2,h3⟩=>⟨g,cap,cur,h1,bQ hbl.size h2,h3⟩⟩;clear kg ho1;go_wp2
   go_loopw [6,27] (fun pv u wq=>∃ (j:Nat),u=.int .i64 (j:Int)/\j<=zs.length/\Hid (wq.ownsRow w.heap.size 3 1 pv (cat (zs.take j)).length ((cat (zs.take j)).map (Value.int .i64)))/\Below w.heap.size w wq) (fun _ u _=>zs.length - (intOf u).toNat)
   case atStart=>exact⟨0,rfl,kQ _,by simpa [Hid,cat] using HO1.out,b1⟩
   case round =>
    obtain⟨j,rfl,hjt,HR,hbq⟩:=hrel;have hqs:=hbq.size;obtain⟨pa,pc,rfl⟩:=bF HR.out;obtain⟨P,hP⟩:∃ P,(cat (zs.take j)).length=P:=⟨_,rfl⟩;rw[hP] at HR ⊢;have HPB:Hid (P<=1073741824/\(cat (zs.take j)).length=P):=⟨by rw[<-hP];exact HLN.out j,hP⟩;clear hP;by_cases h2:j<zs.length
    ·obtain⟨b,o,sa,sc,xs,rfl,hb,hsg,d1,hI⟩:=HP.out.get hC hbq h2
     have hn2:P+xs.length<=1073741824:=by
      have h5:=HLN.out (j+1);rw[nC hsg,bJ,HPB.out.2] at h5;exact h5
     have HCT:Hid (cat (zs.take (j+1))=cat (zs.take j)++xs):=nC hsg;by_cases hx:xs=[]
     ·subst hx
      have hle:=ajQ HR.out;have hap:=fun(W:World) ty=>feZ W ty pa sa P pc sc hle i0 hi hz1;have HR2:Hid (wr.ownsRow w.heap.size 3 1 (.slice pa P pc) (cat (zs.take (j+1))).length ((cat (zs.take (j+1))).map (Value.int .i64))):=by rw[Hid,HCT.out,yU,HPB.out.2];exact HR.out
      clear hsg hI HR hle;go_wp2_with (at_builtin;refine Lib.wpList_append_run _ rfl _ _ _ _ rfl _ _ rfl rfl _ _ (hap _ _) ?_)
      go_roundw
      case rel=>exact⟨j+1,by go_num,h2,HR2,hbq⟩
      case measure=>simp[intOf];omega
     ·obtain⟨sa',sc',hv,hscc,_,hxx⟩:=hI
      simp only[iZ] at hv;obtain⟨rfl,_,rfl⟩:=hv;obtain⟨b',o',rfl,hb',_,hcell⟩:=hxx hx
      have HCE:Hid (∀ m u,(xs.map (Value.int .i64))[m]? = some u->wr.cell? ((⟨b',o',none⟩:Addr).add m)=some u):=by
       intro m u hm;have hlt:m<xs.length:=by have:=(cQ.1 hm).1;simpa using this
       obtain⟨x,hx2⟩:=cX hlt;rw[nU,hcell m x hx2];simpa [hx2] using hm
      clear hsg hxx hcell;go_wp2_with (at_builtin;refine xL _ rfl _ _ 35 rfl w.heap.size 3 i0 (.int .i64 0) 1 8 underlying35 hi hz0 hz1 hz2 rfl (by decide) _ _ _ rfl HR.out ⟨b',o',none⟩ xs.length sc (xs.map (Value.int .i64)) rfl ?q1 ?q2 ?q3 ?q4 ?q5 ?q6 ?_)
      case q1=>simp
      case q2=>exact HCE.out
      case q3=>intro u hu;obtain⟨x,_,rfl⟩:=wX.1 hu;rfl
      case q4=>unfold maxLen;omega
      case q5=>omega
      case q6=>omega
      intro v2 w2 hown hgrow _
      have HR2:Hid (w2.ownsRow w.heap.size 3 1 v2 (cat (zs.take (j+1))).length ((cat (zs.take (j+1))).map (Value.int .i64))):=by
       rw[Hid,HCT.out,bJ,HPB.out.2,vY];exact hown
      have B2:Below w.heap.size w w2:=hbq.grown hgrow hqs (zO HR.out);obtain⟨a2,c2,hv2⟩:=bF hown;subst hv2;clear hown hgrow HR;go_wp2
      go_roundw
      case rel=>exact⟨j+1,by go_num,h2,HR2,B2⟩
      case measure=>simp[intOf];omega
    ·have htk:zs.take j=zs:=pJ (by omega)
     have HF:Hid (∀ m,m<w.heap.size->jQ wr wr.heap.size m (.slice pa P pc) (cat zs)):=by
      intro m hm;have h5:=HR.out;rw[htk] at h5;have h6:=HPB.out.2;rw[htk] at h6;exact iT h6.symm hs h5 hm
     clear htk HR;go_wp2;go_ret;exact⟨_,rfl,HF.out,hbq⟩
end
section
open Go.RowKit Go.Shelf Ds
def pre (x:List Int) (b:List Pt):List Pt:=b.map fun q=>(x++q.1,q.2)
def rF (x:List Int) (b:List Pt):List Pt × Int:=if (pre x b).all wJ then (pre x b,0) else ([],3)
theorem ffQ (w:World)(C:Nat)(u v:Value)(xs ys:List Int)(hC:C<=w.heap.size)(hu:jQ w C C u xs)(hv:jQ w C C v ys) :
  oL (w.alloc (.cells #[u,v] 35)) (w.heap.size+1) (.slice (some ⟨w.heap.size,0,none⟩) 2 2) [(u,xs),(v,ys)]:=by
 refine⟨_,2,rfl,by simp,by simp,fun z hz=>?_,fun _=>⟨w.heap.size,0,rfl,by omega,fun i z hi=>?_⟩⟩
 ·simp at hz
  rcases hz with rfl|rfl
  ·exact(hu.at hC (ba _ _)).mono (by omega) (.inr (by omega))
  ·exact(hv.at hC (ba _ _)).mono (by omega) (.inr (by omega))
 ·match i,hi with
  | 0,hi=>simp at hi;subst hi;simp[go_sem]
  | 1,hi=>simp at hi;subst hi;simp[go_sem]
def bS (x:List Int) (b:List Pt) (us:List Tr) (i:Nat):Prop:=us.length=b.length/\(rd us).take i=(pre x b).take i/\((pre x b).take i).all wJ=true
theorem bS.step {b:List Pt}{us:List Tr}(h:bS x b us i)(hp:b[i]? = some (y,k))(hk:wJ (x++y,k)=true):bS x b (us.set i (s,x++y,k)) (i+1):=by
 obtain⟨h1,h2,h3⟩:=h;have hi:=(cQ.1 hp).1;have hg:(pre x b)[i]? = some (x++y,k):=by simp[pre,hp]
 refine⟨by simp[h1],?_,?_⟩
 ·rw[kT,gM _ (by rw[rV];omega),h2,gZ,hg];rfl
 ·rw[gZ,hg,List.all_append,h3];simp[hk]
theorem ffX (C D:Nat)(u v:Value)(xs:List Int)(ts:List Tr)(w:World)(hC:C<=w.heap.size)(hD:D<=w.heap.size)(hx:jQ w C C u xs)(hp:fQ w D v ts)(hxl:xs.length<=16)(hd:Dis (rd ts))(l:List Pt)(er:Int)(hr:rF xs (rd ts)=(l,er)) :
  Calls prog 82 #[u,v] w fun e w'=>∃ v' us,e=.returned (.tuple #[v',.int .i64 er])/\rd us=l/\oX w' w.heap.size v' us/\Below w.heap.size w w'/\sQ w.heap.size us:=by
 have HP:=qQ hp;have HX:=qQ hx;have HR:Hid (rF xs (rd ts)=(l,er)/\Dis (rd ts)):=⟨hr,hd⟩;obtain⟨a,c,rfl,hc,hl,_⟩:=hp;obtain⟨xa,xc,rfl,_⟩:=hx;obtain⟨i0,hi,hz0,hz1,hz2⟩:=rJ fM
 have hmk:∀ u:World,(Instr.makeSlice 66 (.int .i64 (ts.length:Int)) (.int .i64 (ts.length:Int))).run prog u =
   .ok (.slice (some ⟨u.heap.size,0,none⟩) ts.length ts.length) (u.alloc (.cells (madeCells #[.slice none 0 0,.int .i64 0] (ts.length*2)) 82)):=fun u=>by
  have h:=run_make (P:=prog) u 66 82 i0 (.agg #[.slice none 0 0,.int .i64 0]) underlying66 hi hz0 .i64 .i64 (ts.length:Int) (ts.length:Int) (by omega) (zG _) (by rw[hz2];omega) (by omega);rw[vK] at h;simpa [hz1,Value.cells] using h
 clear hr hd;go_enter func82,ntmps82;go_wp2
 go_loopw [14] (fun s wr=>∃ (i:Nat) (us:List Tr),s=.int .i64 (i:Int)/\i<=ts.length/\Hid (bS xs (rd ts) us i)/\Row wr w.heap.size 0 us/\(∀ t∈us,jQ wr wr.heap.size w.heap.size t.1 t.2.1)/\Below w.heap.size w wr/\Hid (sQ w.heap.size us)) (fun s _=>ts.length - (intOf s).toNat)
 case atStart =>
  refine⟨0,List.replicate ts.length no,rfl,kQ _,⟨by simp[rd],by simp,by simp⟩,arX _ _,fun t ht=>?_,ba _ _,fun t ht hne=>?_⟩
  ·rw[tS ht]
   exact bI _ _ _
  ·rw[tS ht] at hne
   exact absurd rfl hne
 case round =>
  obtain⟨i,us,rfl,hit,HT,hrow,hI,hbl,HFR⟩:=hrel;have hul:us.length=ts.length:=by have:=HT.out.1;rw[rV] at this;exact this
  by_cases h1:i<ts.length
  ·obtain⟨b,o,sa,sc,ys,k,rfl,hb,hs,c1,c2,hIx⟩:=HP.out.get hD hbl h1
   have HS:=qQ (pV hs)
   have hyl:ys.length<=16:=by
    have h5:=bzZ HR.out.2 (rQ HS.out);simp[okO] at h5;exact h5.1
   obtain⟨t0,ht0⟩:=cX (l:=us) (i:=i) (by omega);have r1:=hrow.cells i t0 ht0;have r2:=hrow.thaw (i*2) (by omega);have r3:=hrow.thaw (i*2+1) (by omega);have HRo:Hid (Row wr w.heap.size 0 us/\us.length=ts.length):=⟨hrow,hul⟩;have HI:=qQ hI;have HIx:=qQ hIx;have hs1:=hbl.size;have hlt:=hrow.lt;obtain⟨r4,r5⟩:=r1;simp only[xZ] at r2 r3 r4 r5;obtain⟨v0,hv0⟩:∃ v0,t0.1=v0:=⟨_,rfl⟩;rw[hv0] at r4;clear hs hrow hI hIx ht0 hv0 hul;have r6:∀ o,(wr.alloc o).cell? ⟨w.heap.size,i*2,none⟩=some v0:=fun o=>by rw[yH _ _ _ hlt];exact r4
   have r7:∀ o,(wr.alloc o).cell? ⟨w.heap.size,i*2+1,none⟩=some (.int .i64 t0.2.2):=fun o=>by rw[yH _ _ _ hlt];exact r5
   have r8:∀ o,(wr.alloc o).frozen? ⟨w.heap.size,i*2,none⟩=false:=fun o=>by rw[(ba wr o).frozen hlt];exact r2
   have r9:∀ o,(wr.alloc o).frozen? ⟨w.heap.size,i*2+1,none⟩=false:=fun o=>by rw[(ba wr o).frozen hlt];exact r3
   go_wp2_with fail;generalize hO:Obj.cells #[Value.slice sa ys.length sc,Value.int IntKind.i64 k] 82=O;have g1:(wr.alloc O).cell? ⟨wr.heap.size,0,none⟩=some (.slice sa ys.length sc):=by rw[<-hO];simp[go_sem]
   have g2:(wr.alloc O).cell? ⟨wr.heap.size,1,none⟩=some (.int .i64 k):=by rw[<-hO];simp[go_sem]
   have g3:=r6 O;have g4:=r7 O;have g5:=r8 O;have g6:=r9 O;have g7:(wr.alloc O).heap.size=wr.heap.size+1:=by simp
   obtain⟨W,hW⟩:∃ W,wr.alloc O=W:=⟨_,rfl⟩;have HW:Hid (Below wr.heap.size wr W):=hW▸ba wr O;rw[hW] at g1 g2 g3 g4 g5 g6 g7 ⊢;clear r2 r3 r4 r5 r6 r7 r8 r9 hO hW;have HB:Below w.heap.size w W:=bt hbl HW.out;have ne1:¬ w.heap.size=wr.heap.size:=by omega
   have ne2:¬ wr.heap.size=w.heap.size:=by omega
   have lw1:w.heap.size<W.heap.size:=by omega
   have lw2:wr.heap.size<W.heap.size:=by omega
   have z1:(0:Int)<=(i:Int):=by omega
   have z2:(i:Int)<(ts.length:Int):=by omega
   obtain⟨WA,hWA0⟩:∃ WA,(W.alloc (.cells #[.slice xa xs.length xc,.slice sa ys.length sc] 35)).drew=WA:=⟨_,rfl⟩;have hWA:Below W.heap.size W WA:=by rw[<-hWA0];exact(bal (aQ _ _) _).drew
   have hWAs:WA.heap.size=wr.heap.size+2:=by rw[<-hWA0];show(W.alloc _).heap.size=_;simp;omega
   have HL2:Hid (oL WA (W.heap.size+1) (.slice (some ⟨wr.heap.size+1,0,none⟩) 2 2) [(.slice xa xs.length xc,xs),(.slice sa ys.length sc,ys)]):=by
    rw[Hid,<-hWA0,<-g7];exact(ffQ W W.heap.size _ _ xs ys (vQ _) ((HX.out.at hC HB).mono (by omega) (.inr (by omega))) ((HIx.out.at (by omega) HW.out).mono (by omega) (.inr (by omega)))).keep (aQ _ _).drew
   have kcat:=feJ (W.heap.size+1) (.slice (some ⟨wr.heap.size+1,0,none⟩) 2 2) [(.slice xa xs.length xc,xs),(.slice sa ys.length sc,ys)] WA (by omega) HL2.out (by simp) (by simp[cat];omega);have ecat:cat [((.slice xa xs.length xc,xs):Vl),(.slice sa ys.length sc,ys)]=xs++ys:=by simp[cat]
   obtain⟨zs,hzs⟩:∃ zs,xs++ys=zs:=⟨_,rfl⟩;rw[ecat,hzs] at kcat;have HZ:=qQ hzs;clear hzs;have HKC:=qQ kcat;have kA1:WA.cell? ⟨wr.heap.size,0,none⟩=some (.slice sa ys.length sc):=(hWA.cell (p:=⟨wr.heap.size,0,none⟩) lw2).trans g1;have kA2:WA.cell? ⟨wr.heap.size,1,none⟩=some (.int .i64 k):=(hWA.cell (p:=⟨wr.heap.size,1,none⟩) lw2).trans g2;have kB1:(W.alloc (.cells #[.slice xa xs.length xc,.slice sa ys.length sc] 35)).cell? ⟨wr.heap.size,0,none⟩=some (.slice sa ys.length sc):=((ba W _).cell (p:=⟨wr.heap.size,0,none⟩) lw2).trans g1;have kB2:(W.alloc (.cells #[.slice xa xs.length xc,.slice sa ys.length sc] 35)).cell? ⟨wr.heap.size,1,none⟩=some (.int .i64 k):=((ba W _).cell (p:=⟨wr.heap.size,1,none⟩) lw2).trans g2;have hza:0<WA.heap.size:=by omega
   clear kcat ecat HL2
   go_region_held3 (fun w'=>w'.cell? ⟨wr.heap.size,0,none⟩=some (.slice sa ys.length sc)/\w'.cell? ⟨wr.heap.size,1,none⟩=some (.int .i64 k))
    ((go_split_ands;refine⟨?_,?_⟩ <;> first|assumption|(simp[go_sem, *];done)))
    ((go_at_call 146;refine HKC.out.mono ?_;rintro x1 w1 ⟨v',rfl,hI1,hb1⟩;obtain⟨av,cv,hv1,_⟩:=hI1 0 hza;subst hv1;have hb2:Below W.heap.size W w1:=(bt hWA hb1);obtain⟨hc1,hf1⟩:=bcell hb2;have hs1':=hb2.size;have k1:w1.cell? ⟨w.heap.size,i*2,none⟩=some v0:=(hc1 _ _ lw1).trans g3;have k2:w1.cell? ⟨w.heap.size,i*2+1,none⟩=some (.int .i64 t0.2.2):=(hc1 _ _ lw1).trans g4;have k3:w1.frozen? ⟨w.heap.size,i*2,none⟩=false:=(hf1 _ _ lw1).trans g5;have k4:w1.frozen? ⟨w.heap.size,i*2+1,none⟩=false:=(hf1 _ _ lw1).trans g6;have k5:w1.cell? ⟨wr.heap.size,0,none⟩=some (.slice sa ys.length sc):=(hc1 _ _ lw2).trans g1;have k6:w1.cell? ⟨wr.heap.size,1,none⟩=some (.int .i64 k):=(hc1 _ _ lw2).trans g2;clear hc1 hf1))
   have HB1:Below wr.heap.size wr w1:=bt HW.out hb2;obtain⟨W2,hW2⟩:∃ W2,(w1.setCell ⟨w.heap.size,i*2,none⟩ (.slice av zs.length cv)).setCell ⟨w.heap.size,i*2+1,none⟩ (.int .i64 k)=W2:=⟨_,rfl⟩;have hmW:w.heap.size<WA.heap.size:=by omega
   have HRn:Hid (Row W2 w.heap.size 0 (us.set i (.slice av zs.length cv,zs,k))):=hW2▸(HRo.out.1.keep HB1).set0 (by rw[HRo.out.2];exact h1) _ zs k
   have hIs:∀ t∈us.set i (.slice av zs.length cv,zs,k),jQ W2 W2.heap.size w.heap.size t.1 t.2.1:=by
    intro t ht
    have hI2:jQ w1 w1.heap.size w.heap.size t.1 t.2.1:=by
     rcases uK ht with h|rfl
     ·exact(HI.out t h).at2 HB1
     ·exact hI1 _ hmW
    have:=(hI2.set (p:=⟨w.heap.size,i*2,none⟩) rfl (.slice av zs.length cv)).set (p:=⟨w.heap.size,i*2+1,none⟩) rfl (.int .i64 k);rw[<-hW2];simpa using this
   have HIn:=qQ hIs
   have HFn:Hid (sQ w.heap.size (us.set i (.slice av zs.length cv,zs,k))):=by
    intro t ht;rcases uK ht with h|rfl
    ·exact HFR.out t h
    ·exact eT (w:=w1) (B:=w1.heap.size) fun m hm=>hI1 m (by omega)
   have B2:Below w.heap.size w W2:=by rw[<-hW2];exact bs (bs (bt hbl HB1) (vQ _) _) (vQ _) _
   have e1:W2.cell? ⟨w.heap.size,i*2,none⟩=some (.slice av zs.length cv):=by rw[<-hW2];exact(gQ (by simp)).trans (wZ k1)
   have e2:W2.cell? ⟨w.heap.size,i*2+1,none⟩=some (.int .i64 k):=by rw[<-hW2];exact wZ (u:=.int .i64 t0.2.2) ((gQ (by simp)).trans k2)
   have hmem:((.slice av zs.length cv,zs,k):Tr)∈us.set i (.slice av zs.length cv,zs,k):=by
    refine rQ (i:=i) ?_;rw[fG (by rw[HRo.out.2];exact h1)]
   obtain⟨r,HOK⟩:∃ r,Hid (wJ (zs,k)=r):=⟨_,rfl⟩;have kb:=uW W2.heap.size w.heap.size (.slice av zs.length cv) k zs W2 (vQ _) (hIs _ hmem) r HOK.out;clear hI1 hb1 hb2 HB1 k1 k2 k3 k4 k5 k6 g1 g2 g3 g4 g5 g6 hIs hmem kA1 kA2 kB1 kB2 HKC hWA0 hWA;go_wp2_with fail;refine kb.mono ?_;rintro e w3 ⟨rfl,hb3⟩;clear kb;cases r with
   | true =>
    have HTn:Hid (bS xs (rd ts) (us.set i (.slice av zs.length cv,zs,k)) (i+1)):=by
     have h5:=HT.out.step (s:=.slice av zs.length cv) HS.out (by rw[HZ.out];exact HOK.out);rwa [HZ.out] at h5
    have HRn3:=qQ (HRn.out.keep hb3);go_wp2
    go_roundw
    case rel=>exact⟨i+1,us.set i (.slice av zs.length cv,zs,k),by go_num,h1,HTn,HRn3.out,fun t ht=>(HIn.out t ht).at2 hb3,bt B2 hb3,HFn⟩
    case measure=>simp[intOf];omega
   | false =>
    have hbeh:=HR.out.1
    have hno:¬ (pre xs (rd ts)).all wJ=true:=by
     rw[jM];intro h5;have h6:=h5 (zs,k) (wX.2 ⟨(ys,k),rQ HS.out,by simp only[HZ.out]⟩);rw[HOK.out] at h6;cases h6
    unfold rF at hbeh;rw[xQ hno] at hbeh;simp only[dQ] at hbeh;obtain⟨rfl,rfl⟩:=hbeh;clear hno;go_wp2;exact uQ (v:=.tuple #[.slice none 0 0,.int .i64 3]) (by simp[results,results82,go_sem]) rfl ⟨_,[],rfl,rfl,.inl ⟨rfl,rfl⟩,bt B2 hb3,sQ.nil _⟩
  ·have hlen2:(pre xs (rd ts)).length=ts.length:=by simp[pre,rV]
   have htk:(pre xs (rd ts)).take i=pre xs (rd ts):=pJ (by omega)
   have hrd:rd us=pre xs (rd ts):=by
    have h5:=HT.out.2.1;rw[htk,pJ (by rw[rV];omega)] at h5;exact h5
   have hbeh:=HR.out.1;unfold rF at hbeh;have hall:=HT.out.2.2;rw[htk] at hall;rw[zQ hall] at hbeh;simp only[dQ] at hbeh;obtain⟨hbl1,rfl⟩:=hbeh;have HD2:Hid (rd us=l/\us.length=ts.length):=⟨hrd.trans hbl1,hul⟩;have HRo:=qQ hrow;have HI:=qQ hI;clear hrow hI hrd htk hall hlen2 hul hbl1;go_wp2;exact uQ (v:=.tuple #[.slice (some ⟨w.heap.size,0,none⟩) ts.length ts.length,.int .i64 0]) (by simp[results,results82,go_sem]) rfl ⟨_,us,rfl,HD2.out.1,.inr ⟨w.heap.size,0,ts.length,by rw[HD2.out.2],by rw[HD2.out.2];exact vQ _,by rw[HD2.out.2];exact hl,vQ _,HRo.out,HI.out⟩,hbl,HFR.out⟩
end
end Go.Proofs.YtpmioeamdhdokaaGreat
