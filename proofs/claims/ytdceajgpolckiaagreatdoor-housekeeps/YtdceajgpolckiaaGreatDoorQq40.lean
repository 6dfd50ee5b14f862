import Derived.Test.YtdceajgpolckiaaGreatDoorQq39
open Go.Proofs.Tryz
set_option linter.unusedSimpArgs false
set_option maxHeartbeats 16000000
set_option maxRecDepth 100000
namespace Go.Proofs.YtdceajgpolckiaaGreatDoor
section
open Go.RowKit Ds
open K (Cl)
open K.P (HSt Keeps oQ eX rJ kX HouK DskM xG xZ dQ Ev Sn dA zZ TwoB sJ kV dD yZ qG gZ eF enc gM)
structure Stv where
 x:Stp
 v0:Int
 v1:ByteArray
 v2:Int
 v3:Int
 a4:Option Addr
 n4:Nat
 c4:Nat
 a5:Option Addr
 n5:Nat
 c5:Nat
 xa:Option Addr
 xc:Nat
def Stv.cs (s:Stv):List Value:=[.int .i64 s.x.act,.int .i64 s.x.n,.string s.x.nm,.int .i64 s.x.bu,.int .i64 s.x.bd,.string s.x.pn,.int .i64 s.v0,.string s.v1,.int .i64 s.v2,.int .i64 s.v3,.slice s.a4 s.n4 s.c4,.slice s.a5 s.n5 s.c5,.int .i64 s.x.u,.int .i64 s.x.d,.int .i64 s.x.lo,.int .i64 s.x.hi,.slice s.xa s.x.bits.length s.xc,.int .i64 s.x.word]
theorem Stv.len (s:Stv):s.cs.length=18:=rfl
theorem Stv.one (s:Stv):∀ u∈s.cs,u.oneCell' = true:=by
 intro u hu;simp only[Stv.cs,yX,jJ,vJ] at hu;rcases hu with rfl|rfl|rfl|rfl|rfl|rfl|rfl|rfl|rfl|rfl|rfl|rfl|rfl|rfl|rfl|rfl|rfl|rfl <;> rfl
def mY (w:World) (B:Nat) (s:Stv):Prop :=
 ∃ nb,K.Qm w B s.x.q (.int .i64 s.v0) (.string s.v1) (.int .i64 s.v2) (.int .i64 s.v3) (.slice s.a4 s.n4 s.c4) (.slice s.a5 s.n5 s.c5)/\qY w B nb (.slice s.xa s.x.bits.length s.xc) s.x.bits/\(s.xa=none->s.xc=0)/\aX s.x.lo/\aX s.x.hi/\aX s.x.n/\aX s.x.word/\s.x.nm.size<=9223372036854775807/\s.x.pn.size<=9223372036854775807
theorem mY.keep {w w':World}{B:Nat}{s:Stv}(h:mY w B s)(hb:Below B w w'):mY w' B s:=by
 obtain⟨nb,h1,h2,h3⟩:=h;exact⟨nb,h1.keep hb,h2.keep hb,h3⟩
theorem d0Z {w:World}{B b o:Nat}{x:Stp}(h:tI w B b o x):∃ s:Stv,s.x=x/\w.rangeAt b o s.cs/\mY w B s:=by
 obtain⟨v0,v1,v2,v3,v4,v5,xa,xc,nb,h1,h2,h3,h4⟩:=h;obtain⟨kk,kc,kl,kh,ka,kn,kd,kb,km,kp,rfl,rfl,rfl,rfl,rfl,rfl⟩:=h2.shape;exact⟨⟨x,kk,kc,kl,kh,ka,kn,kd,kb,km,kp,xa,xc⟩,rfl,h1,nb,h2,h3,h4⟩
theorem ayZ {w:World}{B b o:Nat}{s:Stv}(h:w.rangeAt b o s.cs)(hm:mY w B s):tI w B b o s.x:=by
 obtain⟨nb,h2,h3,h4⟩:=hm;exact⟨_,_,_,_,_,_,s.xa,s.xc,nb,h,h2,h3,h4⟩
def rG (w:World) (B:Nat) (v:Value) (ss:List Stv):Prop :=
 ∃ a c,v=.slice a ss.length c/\ss.length<=c/\(∀ s∈ss,mY w B s)/\(ss≠[]->∃ b o,a=some ⟨b,o,none⟩/\b<B/\∀ (i:Nat) s,ss[i]? = some s->w.rangeAt b (o+i*18) s.cs)
theorem rG.keep {w w':World}{B:Nat}{v:Value}{ss:List Stv}(h:rG w B v ss)(hb:Below B w w'):rG w' B v ss:=by
 obtain⟨a,c,rfl,h1,h2,h3⟩:=h;refine⟨a,c,rfl,h1,fun s hs=>(h2 s hs).keep hb,fun hn=>?_⟩;obtain⟨b,o,rfl,hB,h4⟩:=h3 hn;exact⟨b,o,rfl,hB,fun i s hs j u hj=>(hb.cell (p:=⟨b,o+i*18+j,none⟩) hB).trans (h4 i s hs j u hj)⟩
def jX (s:Stv):Stv:=if s.x.act=6 then { s with x:={ s.x with act:=0 } } else s
def sfl (ss:List Stv):List Value:=ss.flatMap Stv.cs
theorem d0J (ss:List Stv):(sfl ss).length=ss.length*18:=by
 induction ss with
 | nil=>rfl
 | cons s ss ih=>unfold sfl at *;rw[wI,zJ,ih,Stv.len,iF];omega
theorem d1Q (ss:List Stv)(s:Stv):sfl (ss++[s])=sfl ss++s.cs:=by simp[sfl]
theorem eC:∀ (ss:List Stv) (i:Nat) (s:Stv) (j:Nat) (u:Value),ss[i]? = some s->s.cs[j]? = some u->(sfl ss)[i*18+j]? = some u
 | [],i,s,j,u,h,_=>by simp at h
 | t::ss,i,s,j,u,h,hj=>by
  unfold sfl;rw[wI];have hj18:j<18:=by have:=(lQ.1 hj).1;rwa [Stv.len] at this
  cases i with
  | zero =>
   simp only[oR,vX] at h;subst h;rw[aO (by rw[Stv.len];omega),Nat.zero_mul,jZ];exact hj
  | succ i =>
   rw[vI] at h;rw[dH (by rw[Stv.len];omega),Stv.len,show(i+1)*18+j - 18=i*18+j by omega];exact eC ss i s j u h hj
theorem mY.mono {w:World}{B B':Nat}{s:Stv}(h:mY w B s)(hB:B<=B'):mY w B' s:=by
 obtain⟨nb,h1,h2,h3⟩:=h;exact⟨_,K.P.iM hB _ h1,h2.mono hB (.inl rfl),h3⟩
theorem fC {w:World}{base:Nat}{v:Value}{ss:List Stv}(h:w.ownsRow base 41 18 v ss.length (sfl ss))(hm:∀ s∈ss,mY w w.heap.size s):rG w w.heap.size v ss:=by
 rcases h.2 with⟨rfl,h0⟩|⟨g,cap,cur,rfl,hb,hc,hn,hrest⟩
 ·obtain rfl:ss=[]:=xK.1 h0
  exact⟨none,0,rfl,vQ _,hm,fun hne=>absurd rfl hne⟩
 ·have hlt:=(jU.1 hc).1
  refine⟨_,cap,rfl,hn,hm,fun _=>⟨g,0,rfl,hlt,fun i s hs j u hj=>?_⟩⟩;have h3:=h.cells (g:=g) rfl (i*18+j) u (eC ss i s j u hs hj);have e:(⟨g,0,none⟩:Addr).add (i*18+j)=⟨g,0+i*18+j,none⟩:=by unfold Addr.add;split <;> simp_all
  rwa [e] at h3
theorem ayJ {w:World}{B:Nat}{v:Value}{ss:List Stv}(h:rG w B v ss)(hl:ss.length<=9223372036854775807):cC w B v (ss.map Stv.x):=by
 obtain⟨a,c,rfl,h1,h2,h3⟩:=h;refine⟨a,c,by rw[nY],by rw[nY];exact h1,by rw[nY];exact hl,fun hn=>?_⟩;obtain⟨b,o,rfl,hB,h4⟩:=h3 (fun e=>hn (by rw[e];rfl));refine⟨b,o,rfl,hB,fun i x hx=>?_⟩;rw[xA] at hx;obtain⟨s,hs,rfl⟩:=gO.1 hx;exact ayZ (h4 i s hs) (h2 s (uX hs))
open K (Cl)
open K.P (HSt Keeps oQ eX rJ kX HouK DskM xG xZ dQ Ev Sn dA zZ TwoB sJ kV dD yZ qG gZ eF enc gM)
abbrev eR:Value:=.agg #[.int .i64 0,.int .i64 0,.string ⟨#[]⟩,.int .i64 0,.int .i64 0,.string ⟨#[]⟩,.int .i64 0,.string ⟨#[]⟩,.int .i64 0,.int .i64 0,.slice none 0 0,.slice none 0 0,.int .i64 0,.int .i64 0,.int .i64 0,.int .i64 0,.slice none 0 0,.int .i64 0]
theorem azQ:(prog.info? 41).map (fun i=>(i.zero,i.size,i.bytes))=some (some eR,18,216):=by kernel_rfl
theorem azX (t:Stv):prog.builtSlice 41 1 [(0,.agg t.cs.toArray)]=some t.cs.toArray:=by kernel_rfl
theorem gC {w:World}{b:Nat}{cs:List Value}(h:Bx w b cs):w.rangeAt b 0 cs:=fun j v hj=>by rw[jZ];exact(h j v hj).c
theorem d1X {s:Stv}(h:s.x.act=6):(jX s).cs=s.cs.set 0 (.int .i64 0):=by unfold jX;rw[xQ h];rfl
theorem d1Z {s:Stv}(h:¬ s.x.act=6):jX s=s:=by unfold jX;rw[qQ h]
theorem d1J (B:Nat)(sv:Value)(ss:List Stv)(w:World)(hB:B<=w.heap.size)(hs:rG w B sv ss)(hl:ss.length<=10000000000) :
  Calls prog 8 #[sv] w fun e w'=>∃ v,e=.returned v/\w'.ownsRow w.heap.size 41 18 v ss.length (sfl (ss.map jX))/\Below w.heap.size w w':=by
 have HS:Hid (rG w B sv ss):=hs;obtain⟨i4,hi4,hz40,hz41,hz42⟩:=oY azQ;obtain⟨sa,sc,rfl,hsc,_,_⟩:=hs;go_enter func8,ntmps8;go_wp2
 go_loopw [8,3] (fun iv ov wr=>∃ (i:Nat),iv=.int .i64 (i:Int)/\i<=ss.length/\Hid (Below w.heap.size w wr)/\Hid (wr.ownsRow w.heap.size 41 18 ov i (sfl ((ss.take i).map jX)))) (fun iv _ _=>ss.length - (intOf iv).toNat)
 case atStart=>exact⟨0,rfl,nQ _,aQ _ _,⟨rfl,.inl ⟨rfl,rfl⟩⟩⟩
 case round =>
  obtain⟨i,rfl,hi,HBW,HOW⟩:=hrel;by_cases h1:i<ss.length
  ·obtain⟨s,hx⟩:∃ s,ss[i]? = some s:=⟨_,dZ h1⟩
   obtain⟨sa',sc',hsv,_,_,hst⟩:=HS.out.keep (HBW.out.mono hB);cases hsv;obtain⟨b,o,rfl,hbB,hst⟩:=hst (fun e=>by rw[e] at h1;simp at h1);have HR:Hid (wr.rangeAt b (o+i*18) s.cs):=hst i s hx
   have HNX:Hid (sfl ((ss.take (i+1)).map jX)=sfl ((ss.take i).map jX)++(jX s).cs):=by
    show _=_
    rw[kZ,hx,Option.toList_some,uG,List.map_singleton,d1Q]
   have hii:(i:Int)<(ss.length:Int):=by omega
   obtain⟨w2,hw2⟩:∃ w2,wr.alloc (.cells s.cs.toArray 41)=w2:=⟨_,rfl⟩;have HW2:Hid (Below wr.heap.size wr w2):=hw2▸ba _ _;have HBS:Hid (Bx w2 wr.heap.size s.cs):=hw2▸Bx.new wr s.cs 41 rfl;have HO2:Hid (w2.ownsRow w.heap.size 41 18 u3 i (sfl ((ss.take i).map jX))):=hw2▸HOW.out.alloc _;have hs2:w2.heap.size=wr.heap.size+1:=by rw[<-hw2];simp
   have HS2:Hid (w2.heap.size=wr.heap.size+1):=hs2;have hws:w.heap.size<=wr.heap.size:=HBW.out.size;have a0:=(HBS.out 0 _ rfl).c;have f0:=(HBS.out 0 _ rfl).f;clear hst hx hs2;go_upto_region 4 with fail;refine jV ?_;go_step;go_step;go_step;refine yI rfl 41 _ rfl b (o+i*18) rfl s.cs _ HR.out underlying41 rfl eA ?_;go_step;go_step;go_step;refine wpList_store_rowTo rfl 41 _ _ rfl rfl wr.heap.size s.cs.toArray rfl rfl 41 _ (zE _ _) eA rfl (all_oneCell_toArray s.one) ?_;rw[World.setRow_alloc_new];rw[hw2];clear hw2;by_cases h6:s.x.act=6
   ·have b6:(s.x.act == 6)=true:=by simpa using h6
    obtain⟨w3,hw3⟩:∃ w3,w2.setCell ⟨wr.heap.size,0,none⟩ (.int .i64 0)=w3:=⟨_,rfl⟩;have HB3:Hid (Bx w3 wr.heap.size (jX s).cs):=by rw[Hid,d1X h6];exact hw3▸HBS.out.set (i:=0) (by simp[Stv.len]) _
    have HW3:Hid (Below wr.heap.size wr w3):=hw3▸bs HW2.out (vQ _) _;have HO4:Hid (w3.ownsRow w.heap.size 41 18 u3 i (sfl ((ss.take i).map jX))):=hw3▸eF HO2.out (fun g hg=>xL _ _ _ _ (by have:=(yZ HOW.out hg).2;simp only;omega));have HS3:Hid (w3.heap.size=wr.heap.size+1):=by rw[Hid,<-hw3];simpa using HS2.out
    go_upto_region 7 with fail;clear hw3 a0 f0 b6;have HO5:Hid ((w3.alloc (.cells (jX s).cs.toArray 41)).ownsRow w.heap.size 41 18 u3 i (sfl ((ss.take i).map jX))):=HO4.out.alloc _
    have HQ2:Hid (∀ j u,(jX s).cs[j]? = some u->(w3.alloc (.cells (jX s).cs.toArray 41)).cell? ((⟨w3.heap.size,0,none⟩:Addr).add j)=some u):=by
     intro j u hj;have e:(⟨w3.heap.size,0,none⟩:Addr).add j=⟨w3.heap.size,j,none⟩:=by unfold Addr.add;split <;> simp_all
     rw[e];exact(Bx.new w3 (jX s).cs 41 rfl j u hj).c
    have HQ4:Hid (i+1<=maxLen):=by show _<=_;unfold maxLen;omega
    have HQ5:Hid ((i+1)*216<=140737488355328):=by show _<=_;omega
    have HQ6:Hid (w.heap.size<=(w3.alloc (.cells (jX s).cs.toArray 41)).heap.size):=by have:=HS3.out;show _<=_;simp;omega
    have HQ7:Hid ((w3.alloc (.cells (jX s).cs.toArray 41)).heap.size=w3.heap.size+1):=by show _=_;simp
    refine jV ?_;go_step;go_step;go_step;refine yI rfl 41 _ rfl wr.heap.size 0 rfl (jX s).cs _ (gC HB3.out) underlying41 rfl eA ?_;refine lY rfl 26 41 _ rfl w3.heap.size rfl _ rfl underlying26 (.agg (jX s).cs.toArray) rfl (jX s).cs.toArray (azX _) ?_;refine pY _ rfl _ _ 26 rfl w.heap.size 41 i4 eR 18 216 underlying26 hi4 hz40 hz41 hz42 rfl (by decide) _ _ _ rfl HO5.out ⟨w3.heap.size,0,none⟩ 1 1 (jX s).cs rfl rfl HQ2.out (jX s).one (by decide) HQ4.out HQ5.out HQ6.out (w3.heap.size+1) HQ7.out ?_;intro g cap w5 hown hgrow hat hglt
    have hb5:Below w.heap.size w w5:=by
     have h3:Below w.heap.size w w3:=bt HBW.out HW3.out;refine⟨hgrow.os.trans h3.os,hgrow.tape.trans h3.tape,hgrow.output.trans h3.output,uQ h3.size (uQ (by simp) hgrow.size),fun k hk=>?_⟩;refine(hgrow.block k (by have:=h3.size;simp;omega) (fun e=>?_)).trans ((eV _ _ _ (by have:=h3.size;omega)).trans (h3.block k hk));have:=(yZ HOW.out e.symm).1;omega
    have HB5:Hid (Below w.heap.size w w5):=hb5;have HO6:Hid (w5.ownsRow w.heap.size 41 18 (.slice (some ⟨g,0,none⟩) (i+1) cap) (i+1) (sfl ((ss.take (i+1)).map jX))):=by rw[Hid,HNX.out];exact hown
    clear hown hgrow hat hb5 HB3 HO5 HQ2;go_wp2
    go_roundw
    case rel=>exact⟨i+1,by go_num,h1,HB5,HO6⟩
    case measure=>simp[intOf];omega
   ·have b6:(s.x.act == 6)=false:=by simpa using h6
    have HB3:Hid (Bx w2 wr.heap.size (jX s).cs):=by rw[Hid,d1Z h6];exact HBS.out
    go_upto_region 7 with fail;clear a0 f0 b6;obtain⟨w3,hw3⟩:∃ w3,w2=w3:=⟨_,rfl⟩;subst hw3;have HW3:=HW2;have HO4:=HO2;have HS3:=HS2;have HO5:Hid ((w2.alloc (.cells (jX s).cs.toArray 41)).ownsRow w.heap.size 41 18 u3 i (sfl ((ss.take i).map jX))):=HO4.out.alloc _
    have HQ2:Hid (∀ j u,(jX s).cs[j]? = some u->(w2.alloc (.cells (jX s).cs.toArray 41)).cell? ((⟨w2.heap.size,0,none⟩:Addr).add j)=some u):=by
     intro j u hj;have e:(⟨w2.heap.size,0,none⟩:Addr).add j=⟨w2.heap.size,j,none⟩:=by unfold Addr.add;split <;> simp_all
     rw[e];exact(Bx.new w2 (jX s).cs 41 rfl j u hj).c
    have HQ4:Hid (i+1<=maxLen):=by show _<=_;unfold maxLen;omega
    have HQ5:Hid ((i+1)*216<=140737488355328):=by show _<=_;omega
    have HQ6:Hid (w.heap.size<=(w2.alloc (.cells (jX s).cs.toArray 41)).heap.size):=by have:=HS3.out;show _<=_;simp;omega
    have HQ7:Hid ((w2.alloc (.cells (jX s).cs.toArray 41)).heap.size=w2.heap.size+1):=by show _=_;simp
    refine jV ?_;go_step;go_step;go_step;refine yI rfl 41 _ rfl wr.heap.size 0 rfl (jX s).cs _ (gC HB3.out) underlying41 rfl eA ?_;refine lY rfl 26 41 _ rfl w2.heap.size rfl _ rfl underlying26 (.agg (jX s).cs.toArray) rfl (jX s).cs.toArray (azX _) ?_;refine pY _ rfl _ _ 26 rfl w.heap.size 41 i4 eR 18 216 underlying26 hi4 hz40 hz41 hz42 rfl (by decide) _ _ _ rfl HO5.out ⟨w2.heap.size,0,none⟩ 1 1 (jX s).cs rfl rfl HQ2.out (jX s).one (by decide) HQ4.out HQ5.out HQ6.out (w2.heap.size+1) HQ7.out ?_;intro g cap w5 hown hgrow hat hglt
    have hb5:Below w.heap.size w w5:=by
     have h3:Below w.heap.size w w2:=bt HBW.out HW3.out;refine⟨hgrow.os.trans h3.os,hgrow.tape.trans h3.tape,hgrow.output.trans h3.output,uQ h3.size (uQ (by simp) hgrow.size),fun k hk=>?_⟩;refine(hgrow.block k (by have:=h3.size;simp;omega) (fun e=>?_)).trans ((eV _ _ _ (by have:=h3.size;omega)).trans (h3.block k hk));have:=(yZ HOW.out e.symm).1;omega
    have HB5:Hid (Below w.heap.size w w5):=hb5;have HO6:Hid (w5.ownsRow w.heap.size 41 18 (.slice (some ⟨g,0,none⟩) (i+1) cap) (i+1) (sfl ((ss.take (i+1)).map jX))):=by rw[Hid,HNX.out];exact hown
    clear hown hgrow hat hb5 HB3 HO5 HQ2;go_wp2
    go_roundw
    case rel=>exact⟨i+1,by go_num,h1,HB5,HO6⟩
    case measure=>simp[intOf];omega
  ·have hii:i=ss.length:=by omega
   subst hii;rw[wH] at HOW;have HF:Hid (wr.ownsRow w.heap.size 41 18 u3 ss.length (sfl (ss.map jX))):=HOW;obtain⟨ra,rc,rfl⟩:=K.P.aY HOW.out;clear HOW;go_wp2;go_ret;exact⟨_,rfl,HF.out,HBW.out⟩
theorem d2Q (n:Nat)(hn:n<=5000)(w:World):Calls prog 10 #[.int .i64 (n:Int)] w fun e w'=>e=.returned (.slice (some ⟨w.heap.size,0,none⟩) n n)/\Below w.heap.size w w'/\w.heap.size<w'.heap.size/\∀ j u,(List.replicate n (0:Int))[j]? = some u->w'.cell? ⟨w.heap.size,j,none⟩=some (.int .i64 u):=by
 have hmk:∀ u:World,(Instr.makeSlice 43 (.int .i64 (n:Int)) (.int .i64 (n:Int))).run prog u=.ok (.slice (some ⟨u.heap.size,0,none⟩) n n) (u.alloc (.cells (madeCells #[.int .i64 0] n) 2)):=run_make_row' (P:=prog) 43 2 (.int .i64 0) 8 underlying43 xO rfl .i64 .i64 n (by omega) (by omega);go_enter func10,ntmps10;go_wp2;go_ret;refine⟨rfl,ba _ _,by simp,fun j u hj=>?_⟩;rw[yK _ _ _ _ rfl];have e:(madeCells #[.int .i64 0] n)[j]? = (List.replicate n (Value.int .i64 0))[j]?:=by rw[<-jE,Array.getElem?_toList]
 show(madeCells #[.int .i64 0] n)[j]? = _;rw[e];rw[tM] at hj ⊢;split at hj
 ·rename_i c
  rw[xQ c];simp only[vX] at hj;rw[<-hj]
 ·cases hj
end
namespace K.P
open Go.RowKit K.Ds
theorem d2X (B:Nat)(l:List jQ)(cv rv:Value)(pn:ByteArray)(v0 v1 v2 v3 v4 v5 bv:Value)(q:Qu)(u d lo hi lu ld:Int)(w:World)(hB:B<=w.heap.size)(hp:eQ w B cv l)(hrv:∃ a n c,rv=.slice a n c)(hq:Qm w B q v0 v1 v2 v3 v4 v5)(hbv:∃ a n c,bv=.slice a n c)(nm0:ByteArray)(sz0:Int)(hl0:l[0]? = some (nm0,sz0))(z er:Int)(hz:cA (prt l q nm0)=(z,er)) :
  Calls prog 11 #[.agg #[cv,rv],dA pn v0 v1 v2 v3 v4 v5 u d lo hi bv,.agg #[.int .i64 lu,.int .i64 ld]] w fun e w'=>e=.returned (ev (zZ pn z er lu ld))/\Below w.heap.size w w':=by
 obtain⟨ra,rn,rc,rfl⟩:=hrv;obtain⟨ba0,bn0,bc0,rfl⟩:=hbv;obtain⟨kk,kc,kl,kh,ka,kn,kd,kb,km,kp,rfl,rfl,rfl,rfl,rfl,rfl⟩:=hq.shape;obtain⟨W,hW⟩:∃ W,((((w.alloc (.cells #[cv,.slice ra rn rc] 25)).alloc (.cells #[.string pn,.int .i64 kk,.string kc,.int .i64 kl,.int .i64 kh,.slice ka kn kd,.slice kb km kp,.int .i64 u,.int .i64 d,.int .i64 lo,.int .i64 hi,.slice ba0 bn0 bc0] 39)).alloc (.cells #[.int .i64 lu,.int .i64 ld] 32)).alloc (.cells #[.int .i64 0,.string ⟨#[]⟩,.int .i64 0,.int .i64 0,.int .i64 0] 53)).alloc (.cells #[.int .i64 2,.string pn,.int .i64 0,.int .i64 lu,.int .i64 ld] 53)=W:=⟨_,rfl⟩;have hbW:Below w.heap.size w W:=hW▸bal (bal (bal (bal (ba _ _) _) _) _) _;have A1:Cl W (w.heap.size+1) 1 (.int .i64 kk):=hW▸(((Cl.new _ 39 1 _ (by simp) rfl).at (ba _ _)).at (ba _ _)).at (ba _ _);have A2:Cl W (w.heap.size+1) 2 (.string kc):=hW▸(((Cl.new _ 39 2 _ (by simp) rfl).at (ba _ _)).at (ba _ _)).at (ba _ _);have A3:Cl W (w.heap.size+1) 3 (.int .i64 kl):=hW▸(((Cl.new _ 39 3 _ (by simp) rfl).at (ba _ _)).at (ba _ _)).at (ba _ _);have A4:Cl W (w.heap.size+1) 4 (.int .i64 kh):=hW▸(((Cl.new _ 39 4 _ (by simp) rfl).at (ba _ _)).at (ba _ _)).at (ba _ _);have A5:Cl W (w.heap.size+1) 5 (.slice ka kn kd):=hW▸(((Cl.new _ 39 5 _ (by simp) rfl).at (ba _ _)).at (ba _ _)).at (ba _ _);have A6:Cl W (w.heap.size+1) 6 (.slice kb km kp):=hW▸(((Cl.new _ 39 6 _ (by simp) rfl).at (ba _ _)).at (ba _ _)).at (ba _ _);have HZ:Hid (FivB W (w.heap.size+1+1+1) (.int .i64 0) (.string ⟨#[]⟩) (.int .i64 0) (.int .i64 0) (.int .i64 0)):=hW▸(FivB.new _ _ _ _ _ _ 53 _ (by simp)).below (ba _ _);have HV:Hid (FivB W (w.heap.size+1+1+1+1) (.int .i64 2) (.string pn) (.int .i64 0) (.int .i64 lu) (.int .i64 ld)):=hW▸FivB.new _ _ _ _ _ _ 53 _ (by simp);have hp:eQ W.drew W.heap.size cv l:=(hp.at hB hbW.drew).mono (uQ hB hbW.size);have T0:Cl W w.heap.size 0 cv:=hW▸((((Cl.new (w:=w) #[cv,.slice ra rn rc] 25 0 _ rfl rfl).at (ba _ _)).at (ba _ _)).at (ba _ _)).at (ba _ _);have h0:0<l.length:=(lQ.1 hl0).1;obtain⟨ca,cc,rfl,_⟩:=hp.slice;obtain⟨b,o,nm,sz,rfl,hb,hgt,c1,_,_⟩:=hp.get (vQ _) (aQ _ _) h0;obtain⟨rfl,rfl⟩:nm=nm0/\sz=sz0:=by rw[hl0] at hgt;simpa [eq_comm] using hgt
 have c1':W.cell? ⟨b,o,none⟩=some (.string nm):=by simpa using c1
 have hq2:Qm W.drew W.heap.size q (.int .i64 kk) (.string kc) (.int .i64 kl) (.int .i64 kh) (.slice ka kn kd) (.slice kb km kp):=iM (uQ hB hbW.size) q (hq.at hB hbW.drew);have k2:=avJ l q nm W.drew W.heap.size _ _ _ _ _ _ _ z er (vQ _) hp hq2 hz;have m0:=T0.c;have lM:w.heap.size<W.heap.size:=T0.lt;have n1:=A1.c;have n2:=A2.c;have n3:=A3.c;have n4:=A4.c;have n5:=A5.c;have n6:=A6.c;have lN:w.heap.size+1<W.heap.size:=A1.lt;have lb:b<W.heap.size:=hb;have hlI:(0:Int)<(l.length:Int):=by omega
 have HBW:Hid (Below w.heap.size w W):=hbW;clear hp hq hq2 hz hgt c1 A1 A2 A3 A4 A5 A6 T0 hl0 hbW;go_enter func11,ntmps11;go_wp2;clear hW
 go_region_held3 (fun w'=>w'.cell? ⟨w.heap.size,0,none⟩=some (.slice (some ⟨b,o,none⟩) l.length cc)/\w'.cell? ⟨w.heap.size+1,1,none⟩=some (.int .i64 kk)/\w'.cell? ⟨w.heap.size+1,2,none⟩=some (.string kc)/\w'.cell? ⟨w.heap.size+1,3,none⟩=some (.int .i64 kl)/\w'.cell? ⟨w.heap.size+1,4,none⟩=some (.int .i64 kh)/\w'.cell? ⟨w.heap.size+1,5,none⟩=some (.slice ka kn kd)/\w'.cell? ⟨w.heap.size+1,6,none⟩=some (.slice kb km kp)/\w'.cell? ⟨b,o,none⟩=some (.string nm)) (first|assumption|(simp[go_sem, *];done)) ((go_at_call 29;refine k2.mono ?_;rintro x3 w3 hA;obtain⟨rfl,hb3⟩:=hA;have z0:=(hb3.cell (p:=⟨w.heap.size,0,none⟩) lM).trans m0;have z1:=(hb3.cell (p:=⟨w.heap.size+1,1,none⟩) lN).trans n1;have z2:=(hb3.cell (p:=⟨w.heap.size+1,2,none⟩) lN).trans n2;have z3:=(hb3.cell (p:=⟨w.heap.size+1,3,none⟩) lN).trans n3;have z4:=(hb3.cell (p:=⟨w.heap.size+1,4,none⟩) lN).trans n4;have z5:=(hb3.cell (p:=⟨w.heap.size+1,5,none⟩) lN).trans n5;have z6:=(hb3.cell (p:=⟨w.heap.size+1,6,none⟩) lN).trans n6;have z7:=(hb3.cell (p:=⟨b,o,none⟩) lb).trans c1'))
 have B0:Below w.heap.size w w3:=bt HBW.out.drew hb3;have HV3:Hid (FivB w3 (w.heap.size+1+1+1+1) (.int .i64 2) (.string pn) (.int .i64 0) (.int .i64 lu) (.int .i64 ld)):=(HV.out.below (aQ _ _).drew).below hb3;have HZ3:Hid (FivB w3 (w.heap.size+1+1+1) (.int .i64 0) (.string ⟨#[]⟩) (.int .i64 0) (.int .i64 0) (.int .i64 0)):=(HZ.out.below (aQ _ _).drew).below hb3;have HB0:Hid (Below w.heap.size w w3):=B0;clear k2 n1 n2 n3 n4 n5 n6 lN lM lb hb3 z0 z1 z2 z3 z4 z5 z6 z7 m0 B0;by_cases c:er=0
 ·subst c
  obtain⟨X,hX⟩:∃ X,(w3.setCell ⟨w.heap.size+1+1+1+1,0,none⟩ (.int .i64 3)).setCell ⟨w.heap.size+1+1+1+1,2,none⟩ (.int .i64 z)=X:=⟨_,rfl⟩;have BX:Below w.heap.size w X:=hX▸bs (bs HB0.out (by simp;omega) _) (by simp;omega) _
  have HVX:FivB X (w.heap.size+1+1+1+1) (.int .i64 3) (.string pn) (.int .i64 z) (.int .i64 lu) (.int .i64 ld):=by
   rw[<-hX];obtain⟨q0,q1,q2,q3,q4,f0,f1,f2,f3,f4,hl⟩:=HV3.out;constructor <;> simp[nM,oM,jY,q0,q1,q2,q3,q4,f0,f1,f2,f3,f4,hl,go_sem]
  have HZX:FivB X (w.heap.size+1+1+1) (.int .i64 0) (.string ⟨#[]⟩) (.int .i64 0) (.int .i64 0) (.int .i64 0):=hX▸HZ3.out.gb (sQ (sQ (dX _ (some (w.heap.size+1+1+1+1))) _ _) _ _) (by simp);have HF:=wK HZX (.int .i64 3) (.string pn) (.int .i64 z) (.int .i64 lu) (.int .i64 ld);have HFF:Hid (FivB _ (w.heap.size+1+1+1) (.int .i64 3) (.string pn) (.int .i64 z) (.int .i64 lu) (.int .i64 ld)):=HF;obtain⟨q0,_,q2,_,_,g0,_,g2,_,_,_⟩:=HV3.out;obtain⟨r0,r1,r2,r3,r4,_,_,_,_,_,_⟩:=HVX;obtain⟨s0,s1,s2,s3,s4,f0,f1,f2,f3,f4,_⟩:=HZX;have HBX:Hid (Below w.heap.size w X):=BX;clear HF BX;go_wp2;obtain⟨t0,t1,t2,t3,t4,_,_,_,_,_,_⟩:=HFF.out;refine yQ (v:=.agg #[.int .i64 3,.string pn,.int .i64 z,.int .i64 lu,.int .i64 ld]) ?_ rfl ⟨rfl,?_⟩
  ·simp[results,results11,go_sem,t0,t1,t2,t3,t4]
  ·exact bs (bs (bs (bs (bs HBX.out (by simp;omega) _) (by simp;omega) _) (by simp;omega) _) (by simp;omega) _) (by simp;omega) _
 ·have c1:(er == 0)=false:=by simpa using c
  have HF:=wK HZ3.out (.int .i64 2) (.string pn) (.int .i64 0) (.int .i64 lu) (.int .i64 ld);have HFF:Hid (FivB _ (w.heap.size+1+1+1) (.int .i64 2) (.string pn) (.int .i64 0) (.int .i64 lu) (.int .i64 ld)):=HF;obtain⟨r0,r1,r2,r3,r4,_,_,_,_,_,_⟩:=HV3.out;obtain⟨s0,s1,s2,s3,s4,f0,f1,f2,f3,f4,_⟩:=HZ3.out;have hpr:zZ pn z er lu ld=(2,pn,0,lu,ld):=by unfold zZ;rw[qQ c]
  have HPR:Hid (zZ pn z er lu ld=(2,pn,0,lu,ld)):=hpr;clear HF hpr;go_wp2;obtain⟨t0,t1,t2,t3,t4,_,_,_,_,_,_⟩:=HFF.out;refine yQ (v:=.agg #[.int .i64 2,.string pn,.int .i64 0,.int .i64 lu,.int .i64 ld]) ?_ rfl ⟨?_,?_⟩
  ·simp[results,results11,go_sem,t0,t1,t2,t3,t4]
  ·rw[HPR.out]
  ·exact bs (bs (bs (bs (bs HB0.out (by simp;omega) _) (by simp;omega) _) (by simp;omega) _) (by simp;omega) _) (by simp;omega) _
