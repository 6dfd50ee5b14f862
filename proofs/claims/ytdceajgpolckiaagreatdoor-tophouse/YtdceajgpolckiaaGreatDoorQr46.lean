import Derived.Test.YtdceajgpolckiaaGreatDoorQr45
import Derived.Test.YtdceajgpolckiaaGreatDoorQr20
open Go.Proofs.Tryz
set_option linter.unusedSimpArgs false
set_option maxHeartbeats 16000000
set_option maxRecDepth 100000
namespace Go.Proofs.YtdceajgpolckiaaGreatDoor
variable {w w' wr:World} {B b base c g i k n nb:Nat} {v:Value} {a:Option Addr} {o x xs:List Int} {ts:List (List Int)} {er:Int} {P:Program} {ops:Array Oper} {rest:List Oper} {Q:Exit->Act->World->Prop}
namespace K
open Go.RowKit K.Ds
abbrev Nx:=Value × List Int × Int
def xA (w:World) (B:Nat) (v:Value) (l:List Nx):Prop :=
 ∃ a c,v=.slice a l.length c/\l.length<=c/\l.length<=9223372036854775807/\(∀ x∈l,jQ w B B x.1 x.2.1) /\
  (l≠[]->∃ b o,a=some ⟨b,o,none⟩/\b<B/\∀ i x,l[i]? = some x->w.cell? ⟨b,o+i*2,none⟩=some x.1/\w.cell? ⟨b,o+i*2+1,none⟩=some (.int .i64 x.2.2))
def nd (l:List Nx):List (List Int × Int):=l.map (·.2)
theorem xA.keep {l:List Nx}(h:xA w B v l)(hb:Below B w w'):xA w' B v l:=by
 obtain⟨a,c,hv,hc,hl,hi,hx⟩:=h;refine⟨a,c,hv,hc,hl,fun t ht=>(hi t ht).keep hb,fun hne=>?_⟩;obtain⟨b,o,ha,hB,hcell⟩:=hx hne;exact⟨b,o,ha,hB,fun i t ht=>⟨(hb.cell (p:=⟨b,o+i*2,none⟩) hB).trans (hcell i t ht).1,(hb.cell (p:=⟨b,o+i*2+1,none⟩) hB).trans (hcell i t ht).2⟩⟩
theorem xA.at {l:List Nx}(h:xA w B v l)(hB:B<=w.heap.size)(hb:Below w.heap.size w w'):xA w' B v l:=h.keep (hb.mono hB)
theorem xA.slice {l:List Nx}(h:xA w B v l):∃ a c,v=.slice a l.length c/\l.length<=c/\l.length<=9223372036854775807:=by
 obtain⟨a,c,hv,hc,hl,_⟩:=h;exact⟨a,c,hv,hc,hl⟩
theorem xA.get {l:List Nx}(h:xA w B (.slice a n c) l)(hB:B<=w.heap.size)(hb:Below w.heap.size w wr)(hi:i<l.length) :
  ∃ b o sa sc xs k,a=some ⟨b,o,none⟩/\b<B/\l[i]? = some (.slice sa xs.length sc,xs,k)/\wr.cell? ⟨b,o+i*2,none⟩=some (.slice sa xs.length sc)/\wr.cell? ⟨b,o+i*2+1,none⟩=some (.int .i64 k)/\jQ wr B B (.slice sa xs.length sc) xs:=by
 obtain⟨a',c',hv,_,_,hin,hx⟩:=h.at hB hb;simp only[gZ] at hv;obtain⟨rfl,rfl,rfl⟩:=hv;obtain⟨b,o,rfl,hbB,hcell⟩:=hx (ne_of_lt hi);obtain⟨⟨tv,xs,k⟩,ht⟩:=cX hi;have hI:=hin _ (qX ht);obtain⟨sa,sc,he,_⟩:=hI;simp only at he;subst he;exact⟨b,o,sa,sc,xs,k,rfl,hbB,ht,(hcell i _ ht).1,(hcell i _ ht).2,hin _ (qX ht)⟩
structure Tu where
 v0:Value
 v1:Value
 v2:Value
 v3:Value
 v4:Value
 v5:Value
 q:Qu
 u:Int
 d:Int
 lo:Int
 hi:Int
 nv:Value
 ns:List Nx
abbrev tuv (t:Tu):Value:=.agg #[t.v0,t.v1,t.v2,t.v3,t.v4,t.v5,.int .i64 t.u,.int .i64 t.d,.int .i64 t.lo,.int .i64 t.hi,t.nv]
def yP (w:World) (b o:Nat) (t:Tu):Prop :=
 jY w b o t.v0 t.v1 t.v2 t.v3 t.v4 t.v5/\w.cell? ⟨b,o+6,none⟩=some (.int .i64 t.u)/\w.cell? ⟨b,o+7,none⟩=some (.int .i64 t.d)/\w.cell? ⟨b,o+8,none⟩=some (.int .i64 t.lo)/\w.cell? ⟨b,o+9,none⟩=some (.int .i64 t.hi)/\w.cell? ⟨b,o+10,none⟩=some t.nv
theorem yP.keep {o:Nat}{t:Tu}(h:yP w b o t)(hb:Below B w w')(hB:b<B):yP w' b o t :=
 ⟨h.1.keep hb hB,(hb.cell (p:=⟨b,o+6,none⟩) hB).trans h.2.1,(hb.cell (p:=⟨b,o+7,none⟩) hB).trans h.2.2.1,(hb.cell (p:=⟨b,o+8,none⟩) hB).trans h.2.2.2.1,(hb.cell (p:=⟨b,o+9,none⟩) hB).trans h.2.2.2.2.1,(hb.cell (p:=⟨b,o+10,none⟩) hB).trans h.2.2.2.2.2⟩
def mG (w:World) (B:Nat) (v:Value) (l:List Tu):Prop :=
 ∃ a c,v=.slice a l.length c/\l.length<=c/\l.length<=9223372036854775807/\(∀ t∈l,Qm w B t.q t.v0 t.v1 t.v2 t.v3 t.v4 t.v5/\xA w B t.nv t.ns) /\
  (l≠[]->∃ b o,a=some ⟨b,o,none⟩/\b<B/\∀ i t,l[i]? = some t->yP w b (o+i*11) t)
theorem mG.keep {l:List Tu}(h:mG w B v l)(hb:Below B w w'):mG w' B v l:=by
 obtain⟨a,c,hv,hc,hl,hi,hx⟩:=h;refine⟨a,c,hv,hc,hl,fun t ht=>⟨Qm.keep hb _ (hi t ht).1,(hi t ht).2.keep hb⟩,fun hne=>?_⟩;obtain⟨b,o,ha,hB,hcell⟩:=hx hne;exact⟨b,o,ha,hB,fun i t ht=>(hcell i t ht).keep hb hB⟩
theorem mG.at {l:List Tu}(h:mG w B v l)(hB:B<=w.heap.size)(hb:Below w.heap.size w w'):mG w' B v l:=h.keep (hb.mono hB)
theorem mG.slice {l:List Tu}(h:mG w B v l):∃ a c,v=.slice a l.length c/\l.length<=c/\l.length<=9223372036854775807:=by
 obtain⟨a,c,hv,hc,hl,_⟩:=h;exact⟨a,c,hv,hc,hl⟩
theorem mG.get {l:List Tu}(h:mG w B (.slice a n c) l)(hB:B<=w.heap.size)(hb:Below w.heap.size w wr)(hi:i<l.length) :
  ∃ b o t,a=some ⟨b,o,none⟩/\b<B/\l[i]? = some t/\yP wr b (o+i*11) t/\Qm wr B t.q t.v0 t.v1 t.v2 t.v3 t.v4 t.v5/\xA wr B t.nv t.ns:=by
 obtain⟨a',c',hv,_,_,hin,hx⟩:=h.at hB hb;simp only[gZ] at hv;obtain⟨rfl,rfl,rfl⟩:=hv;obtain⟨b,o,rfl,hbB,hcell⟩:=hx (ne_of_lt hi);obtain⟨t,ht⟩:=cX hi;have hm:=qX ht;exact⟨b,o,t,rfl,hbB,ht,hcell i t ht,(hin t hm).1,(hin t hm).2⟩
end K
section
def eU:List (List Int × Int)->List Int->Int
 | [],_=>-1
 | n::ns,x=>if n.1=x then n.2 else eU ns x
end
section
open Go.RowKit Ds
theorem flZ (x:List Int)(b:List Pt)(o:List Int):wt (pre x b) (x++o)=wt b o:=by
 induction b with
 | nil=>rfl
 | cons p b ih =>
  simp only[pre,xV,wt] at *
  rw[ih];by_cases c:p.1=o
  ·rw[zQ c,zQ (by rw[c])]
  ·rw[xQ c,xQ (by simpa using c)]
def yU:List Pt->List (List Pt)->List Pt × Int
 | x,[]=>(x,0)
 | x,l::ls=>if (pV x l).2=0 then yU (pV x l).1 ls else ([],(pV x l).2)
structure Tn where
 q:K.Ds.Qu
 u:Int
 d:Int
 lo:Int
 hi:Int
 ns:List (List Int × Int)
def kZ:List Pt:=[([],1)]
def uP (nm:ByteArray) (pt:Int × Int) (p q:Int):K.P.En:=if pt.2=0 then (3,nm,pt.1,p,q) else (2,nm,0,p,q)
def vA (g:List Int->Option (List Pt)):List Pt->Option (List (List Int × List Pt))
 | []=>some []
 | p::d=>match g p.1 with
  | none=>none
  | some y=>if (pV [(p.1,1)] y).2=0 then (match vA g d with
   | none=>none
   | some fs=>some ((p.1,(pV [(p.1,1)] y).1)::fs)) else none
def xK (g:List Int->Option (List Pt)) (ls:List (List Pt)):Option (List Pt) :=
 if (yU kZ ls).2=0 then (match vA g (yU kZ ls).1 with
  | none=>none
  | some fs=>if (nG (yU kZ ls).1 (eV fs)).2=0 then some (nG (yU kZ ls).1 (eV fs)).1 else none) else none
def eY (l:List K.Ds.yQ) (rs:List (List Int)) (pt:K.Ds.Qu->Int × Int) (nm:ByteArray) (plan:List Tn):Nat->Int->List K.P.En->Option (List Pt)
 | 0,_,_=>some kZ
 | k+1,a,paid=>if a<0 then some kZ else match plan[a.toNat]? with
  | none=>some kZ
  | some t =>
   if (rY t.u t.d t.lo t.hi l rs t.q).2.2.2=0 then
    (if K.P.eX (K.P.mX [] paid).2 (K.P.nrm (uP nm (pt t.q) (rY t.u t.d t.lo t.hi l rs t.q).2.1 (rY t.u t.d t.lo t.hi l rs t.q).2.2.1))=0 then
     xK (fun x=>eY l rs pt nm plan k (eU t.ns x) (paid++[uP nm (pt t.q) (rY t.u t.d t.lo t.hi l rs t.q).2.1 (rY t.u t.d t.lo t.hi l rs t.q).2.2.1])) (rY t.u t.d t.lo t.hi l rs t.q).1
    else some kZ)
   else some kZ
theorem flJ (h:okO o=true):Dis [(o,1)]:=by
 refine⟨List.pairwise_singleton _ _,?_,by simp[tot],by simp,?_,by simp,by simp[dv]⟩
 ·intro p hp
  rw[pP.1 hp];exact(by decide:(0:Int)<1)
 ·simp[tJ,h]
theorem ajJ:Dis kZ:=flJ (by decide)
theorem b2Z {g:List Int->Option (List Pt)}:∀ {d:List Pt} {fs:List (List Int × List Pt)},vA g d=some fs->∀ p∈d,∃ y,g p.1=some y/\(pV [(p.1,1)] y).2=0/\eV fs p.1=(pV [(p.1,1)] y).1
 | [],_,_,p,hp=>by simp at hp
 | r::d,fs,h,p,hp=>by
  simp only[vA] at h;cases hg:g r.1 with
  | none=>rw[hg] at h;simp at h
  | some y =>
   rw[hg] at h;simp only at h;split at h
   ·rename_i c
    cases hf:vA g d with
    | none=>rw[hf] at h;simp at h
    | some fs' =>
     rw[hf] at h;simp only[zX] at h;subst h;by_cases ce:r.1=p.1
     ·refine⟨y,by rw[<-ce];exact hg,by rw[<-ce];exact c,?_⟩
      rw[eV,zQ ce,<-ce]
     ·rcases fX.1 hp with rfl|hp
      ·exact absurd rfl ce
      ·obtain⟨z,h1,h2,h3⟩:=b2Z hf p hp
       refine⟨z,h1,h2,?_⟩;rw[eV,xQ ce,h3]
   ·simp at h
theorem b2J {f:List Int->Int}:∀ {l:List Pt},jZ l->(∀ p∈l,0<=f p.1)->0<=xM f l
 | [],_,_=>by simp[xM]
 | q::l,h,hf=>by
  have h1:=b2J (l:=l) (fun p hp=>h p (by simp[hp])) fun p hp=>hf p (by simp[hp]);have h2:=iA (bF (h q (by simp))) (hf q (by simp));rw[xM];omega
theorem b3Q {f:List Int->Int}:∀ {l:List Pt},jZ l->(∀ p∈l,0<=f p.1)->∀ p∈l,0<f p.1->0<xM f l
 | [],_,_,p,hp,_=>by cases hp
 | q::l,h,hf,p,hp,h0=>by
  have h1:=b2J (f:=f) (l:=l) (fun p hp=>h p (by simp[hp])) fun p hp=>hf p (by simp[hp]);have h2:=iA (bF (h q (by simp))) (hf q (by simp));rw[xM];rcases fX.1 hp with rfl|hp
  ·have:=uL (h p (by simp)) h0
   omega
  ·have:=b3Q (f:=f) (l:=l) (fun p hp=>h p (by simp[hp])) (fun p hp=>hf p (by simp[hp])) p hp h0
   omega
theorem fmX {g x:Int}(hg:0<g)(h:0<g*x):0<x:=by
 rcases Int.lt_or_le 0 x with c|c
 ·exact c
 ·have:=bE c (bF hg)
  rw[Int.mul_zero] at this;omega
theorem b3X {thn:List Int->List Pt × Int}{l l':List Pt}(hl:Dis l)(hd:∀ p∈l,(thn p.1).2=0->Dis (thn p.1).1)(h:tF thn l=(l',0)):Dis l'/\(∀ p∈l,(thn p.1).2=0)/\∀ p∈l,∀ o,0<wt (thn p.1).1 o->0<wt l' o:=by
 unfold tF at h;split at h
 ·rename_i h1
  split at h
  ·simp at h
  ·obtain⟨A,hA⟩:∃ A,(rU thn 1 l).1=A:=⟨_,rfl⟩
   rw[hA] at h;obtain⟨_,a2,a3⟩:=flQ (thn:=thn) (A':=A) (vI hA h1) (by omega) hd;have hF:∀ p∈l,Dis (thn p.1).1:=fun p hp=>hd p hp (a3 p hp).1;have hsn:Nn (spr (fun x=>(thn x).1) A l):=bzZ _ _ (Nn.of_pos hl.pos) (fun p hp=>Nn.of_pos (hF p hp).pos) (by omega)
   have hok:∀ o,0<wt (spr (fun x=>(thn x).1) A l) o->okO o=true:=by
    intro o ho;obtain⟨q,hq,rfl⟩:=cO ho;obtain⟨p,hp,hq⟩:=nN.1 hq;obtain⟨r,hr,rfl⟩:=tX.1 hq
    show Ds.okO r.1=true
    exact(hF p hp).okO hr
   obtain⟨d',g,hg,hw,ht⟩:=flX hsn hok h;refine⟨d',fun p hp=>(a3 p hp).1,fun p hp o ho=>?_⟩
   have key:0<wt (spr (fun x=>(thn x).1) A l) o:=by
    rw[fkJ];have dv:∀ q∈l,0<A / tot (thn q.1).1:=fun q hq=>jE (by omega) (bF (uO (hF q hq).pos (hF q hq).ne)) (a3 q hq).2;exact b3Q hl.pos (fun q hq=>iA (bF (dv q hq)) ((Nn.of_pos (hF q hq).pos).wt_le o).1) p hp (uL (dv p hp) ho)
   rw[hw] at key;exact fmX hg key
 ·rename_i h1
  simp only[fQ] at h;exact absurd h.2 h1
theorem b3Z {l b x:List Pt}(h:pV l b=(x,0)):Dis x/\Dis l/\Dis b/\∀ a o,0<wt l a->0<wt b o->0<wt x (a++o):=by
 unfold pV at h;by_cases e1:gI l b=0
 ·have e0:=e1
  rw[zQ e1] at h;unfold gI at e0;split at e0
  ·rename_i e2
   have hl:Dis l:=(mD (vI rfl e2:pX l=((pX l).1,0))).2;have hb:Dis b:=(mD (vI rfl e0:pX b=((pX b).1,0))).2;obtain⟨d,e,k⟩:=b3X hl (thn:=fun x=>xH x b) (fun p _ he=>by rw[(tC hb he).1];exact(tC hb he).2) h;refine⟨d,hl,hb,fun a o ha ho=>?_⟩;obtain⟨p,hp,rfl⟩:=cO ha;refine k p hp _ ?_
   show 0<wt (xH p.1 b).1 _
   rw[(tC hb (e p hp)).1,flZ];exact ho
  ·rename_i e2
   exact absurd e0 e2
 ·rw[xQ e1] at h
  simp only[fQ] at h;exact absurd h.2 e1
theorem b3J:∀ {ls:List (List Pt)} {x y:List Pt},Dis x->yU x ls=(y,0)->Dis y/\∀ (bits vs vs':List Int) (us us':Nat),(∀ d∈ls,∀ p∈d,∃ z,p.1=[z])->wJ ls bits us vs=some (vs',us')->0<wt x vs->0<wt y vs'
 | [],x,y,hx,h=>by
  simp only[yU,fQ] at h;obtain⟨rfl,_⟩:=h;refine⟨hx,fun bits vs vs' us us' _ hd ho=>?_⟩;simp only[wJ,zX,fQ] at hd;rw[<-hd.1];exact ho
 | d::ls,x,y,hx,h=>by
  rw[yU] at h;split at h
  ·rename_i c
   obtain⟨k1,_,k3,k4⟩:=b3Z (vI rfl c:pV x d=((pV x d).1,0));obtain⟨i1,i2⟩:=b3J (ls:=ls) k1 h;refine⟨i1,fun bits vs vs' us us' hs hd ho=>?_⟩;unfold wJ at hd;cases e:cA d (bits.drop us) with
   | none=>rw[e] at hd;cases hd
   | some t =>
    obtain⟨o,k,r⟩:=t;rw[e] at hd;simp only at hd;obtain⟨p,hp,rfl⟩:=baJ e;obtain⟨z,hz⟩:=hs d (by simp) p hp;refine i2 bits _ vs' _ us' (fun d' h'=>hs d' (by simp[h'])) hd ?_;have hw:0<wt d p.1:=lR k3.rise k3.pos hp;rw[hz] at hw ⊢;exact k4 vs [z] ho hw
  ·rename_i c
   simp only[fQ] at h;exact absurd h.2 c
theorem b4Q {g:List Int->Option (List Pt)}{ls:List (List Pt)}{D:List Pt}(h:xK g ls=some D):Dis D/\∀ (bits vs:List Int) (us:Nat),(∀ d∈ls,∀ p∈d,∃ z,p.1=[z])->wJ ls bits 0 []=some (vs,us)->∃ y,g vs=some y/\∀ o,0<wt y o->0<wt D (vs++o):=by
 unfold xK at h;split at h
 ·rename_i c1
  obtain⟨d0,k0⟩:=b3J ajJ (vI rfl c1:yU kZ ls=((yU kZ ls).1,0));generalize (yU kZ ls).1=E at *
  cases f1:vA g E with
  | none=>rw[f1] at h;simp at h
  | some fs =>
   rw[f1] at h;simp only at h;split at h
   ·rename_i c2
    simp only[zX] at h;have o1:(pX E).2=0:=by rw[d0.own]
    unfold nG at h c2;rw[zQ o1] at h c2;obtain⟨d1,e1,k1⟩:=b3X d0 (thn:=fun x=>pX (eV fs x)) (fun p _ he=>b1J he) (vI h c2);refine⟨d1,fun bits vs us hs hd=>?_⟩;have hw:0<wt E vs:=k0 bits [] vs 0 us hs hd (by simp[kZ,wt]);obtain⟨p,hp,rfl⟩:=cO hw;obtain⟨y,y1,y2,y3⟩:=b2Z f1 p hp;refine⟨y,y1,fun o ho=>k1 p hp _ ?_⟩;have q:=mD (vI rfl (e1 p hp):pX (eV fs p.1)=((pX (eV fs p.1)).1,0))
    show 0<wt (pX (eV fs p.1)).1 _
    rw[q.1,y3];exact(b3Z (vI rfl y2:pV [(p.1,1)] y=((pV [(p.1,1)] y).1,0))).2.2.2 p.1 o (by simp[wt]) ho
   ·simp at h
 ·simp at h
theorem oS {l:List K.Ds.yQ}{pt:K.Ds.Qu->Int × Int}{nm:ByteArray}{plan:List Tn}{a:Int}{paid:List K.P.En}{D:List Pt}(h:eY l ts pt nm plan k a paid=some D):Dis D:=by
 cases k with
 | zero=>simp only[eY,zX] at h;subst h;exact ajJ
 | succ k =>
  rw[eY] at h
  repeat' split at h
  all_goals first
   | exact(b4Q h).1
   | (simp only[zX] at h;subst h;exact ajJ)
theorem pS {D:List Pt}(hD:Dis D)(h:0<wt D o):∃ n m,wC D o=(n,m,0)/\0<n:=by
 have ht:=uO hD.pos hD.ne;have hw:=(Nn.of_pos hD.pos).wt_le o;have hle:=hD.le;obtain⟨⟨n,m,e⟩,hm⟩:∃ x,Rt.kY (wt D o) (tot D)=x:=⟨_,rfl⟩
 have he:e=0:=by
  have q1:wt D o / ((wt D o).gcd (tot D):Int)<=wt D o:=gN _ hw.1;have q2:tot D / ((wt D o).gcd (tot D):Int)<=tot D:=gN _ (by omega);rcases Rt.iT _ _ n m e hw.1 (by omega) hm with h1|h1
  ·omega
  ·omega
 subst he;obtain⟨e1,e2,e3,_⟩:=cuJ hw.1 (by omega) hm;refine⟨n,m,by unfold wC;rw[hD.own];simpa using hm,?_⟩;rcases Int.lt_or_le 0 n with c|c
 ·exact c
 ·obtain rfl:n=0:=by omega
  have:=uL h (show 0<m by omega);omega
structure Hs (s:K.P.HSt) (paid:List K.P.En):Prop where
 lf:s.left = -1
 up:s.up=true
 bk:s.brk=false
 dl:s.disk.length=100
 bok:K.P.Bok s.disk s.done
 dn:(K.P.mX [] paid).2=s.done
 ln:s.done.length<=paid.length
open K.P in
theorem Hs.does {s s':HSt}{paid:List En}(h:Hs s paid)(hp:paid.length<=9){e:En}(hd:vZ s e=(s',er)):er=eX s.done (nrm e)/\(er=0->Hs s' (paid++[e])):=by
 have hl:=h.ln;have hdl:=h.dl;have f:=e7J (s:=s) (e:=e) h.lf (by omega);rw[hd] at f;refine⟨f.1,fun h0=>?_⟩;obtain⟨b1,b2,b3,b4⟩:=dzQ hd h.bok;rcases b4 with⟨_,q,r⟩|⟨q,_⟩|⟨q,_⟩
 ·have hz:eX s.done (nrm e)=0:=by rw[<-f.1];exact h0
  refine⟨f.2,by rw[b2,h.up],by rw[r,h.bk],by rw[b3,hdl],b1,?_,?_⟩
  ·rw[pB,h.dn]
   unfold sY;rw[zQ hz,q]
  ·rw[q];simp;omega
 ·omega
 ·exact absurd h0 q
open K.P in
theorem fmZ {s:HSt}{paid:List En}(h:Hs s paid){l:List K.Ds.yQ}{x:Stp}(h1:x.act=1)(hw:K.Ds.iJ l ts=0):∃ s' y,bJ l ts s x=(s',y)/\Hs s' paid:=by
 have e:bJ l ts s x=({ s with up:=true,brk:=false,done:=oU s.disk },⟨0,none,[]⟩):=by
  unfold bJ jL;rw[xQ (fun h=>by omega),zQ h1,hw];rfl
 refine⟨_,_,e,?_⟩;rw[adQ h.bok.1];exact⟨h.lf,rfl,rfl,h.dl,h.bok,h.dn,h.ln⟩
open K.P in
theorem fmJ {l:List K.Ds.yQ}{x1 x2:Stp}(h1:x1.act=1)(h2:x2.act=2)(hw:K.Ds.iJ l ts=0)(hd:eX [] (nrm (1,x2.nm,0,x2.bu,x2.bd))=0) :
  ∃ s ys,cJ l ts ⟨List.replicate 100 0,-1,false,false,[]⟩ [x1,x2]=(s,ys)/\Hs s [(1,x2.nm,0,x2.bu,x2.bd)]:=by
 obtain⟨S1,hS1⟩:∃ S1:HSt,S1=⟨List.replicate 100 0,-1,true,false,[]⟩:=⟨_,rfl⟩
 have hs1:Hs S1 []:=by
  rw[hS1];exact⟨rfl,rfl,rfl,by simp,⟨bfZ 100,bfX 100⟩,rfl,vQ _⟩
 have e1:bJ l ts ⟨List.replicate 100 0,-1,false,false,[]⟩ x1=(S1,⟨0,none,[]⟩):=by
  unfold bJ jL;rw[xQ (fun h=>by omega),zQ h1,hw,hS1];simp only[pZ];rw[adQ (bfZ 100)];rfl
 obtain⟨S2,er2,hS2⟩:∃ S2 er2,vZ S1 (1,x2.nm,0,x2.bu,x2.bd)=(S2,er2):=⟨_,_,rfl⟩
 have e2:bJ l ts S1 x2=(S2,⟨er2,none,[]⟩):=by
  unfold bJ jL;rw[xQ (fun h=>by omega),xQ (by omega),xQ (by omega),zQ h2];simp only[pZ,hs1.up,hs1.bk,hS2];rfl
 refine⟨S2,[⟨0,none,[]⟩,⟨er2,none,[]⟩],by simp only[cJ,e1,e2],?_⟩;obtain⟨q1,q2⟩:=hs1.does (by simp) hS2;refine q2 ?_;rw[q1,show S1.done=[] by rw[hS1]];exact hd
def qF (l:List K.Ds.yQ) (x:Stp) (lu ld:Int):K.P.En:=K.P.gV x.pn (K.xJ (K.prt l x.q (lG l))).1 (K.xJ (K.prt l x.q (lG l))).2 lu ld
open K.P in
theorem fnQ {s:HSt}{paid:List En}(h:Hs s paid)(hp:paid.length<=9){l:List K.Ds.yQ}{x:Stp}(h3:x.act=3){ls:List (List Pt)}{lu ld:Int}(hA:rY x.u x.d x.lo x.hi l ts x.q=(ls,lu,ld,er)) :
  ∃ s' y,bJ l ts s x=(s',y) /\
   ((er≠0/\y.err=er)\/(er=0/\bA x.bits 0≠0/\y.err=bA x.bits 0)\/(er=0/\y.err≠0/\y.err=eX s.done (nrm (qF l x lu ld)))\/(er=0/\y.err=6) \/
    (er=0/\eX s.done (nrm (qF l x lu ld))=0/\y.err=0/\∃ vs us,wJ ls x.bits 0 []=some (vs,us)/\y.told=some (vs,us,lu,ld)/\Hs s' (paid++[qF l x lu ld]))):=by
 refine⟨(bJ l ts s x).1,(bJ l ts s x).2,rfl,?_⟩;obtain⟨S2,er2,hS2⟩:∃ S2 er2,vZ s (qF l x lu ld)=(S2,er2):=⟨_,_,rfl⟩;obtain⟨q1,q2⟩:=h.does hp hS2
 have e3:bJ l ts s x=pZ (K.Ds.iJ l ts) s (.ask (kG er x.bits) (qF l x lu ld) ((wJ ls x.bits 0 []).map fun t=>(t.1,t.2,lu,ld))):=by
  unfold bJ jL;rw[xQ (fun h=>by omega),xQ (by omega),xQ (by omega),xQ (by omega),zQ h3];unfold lC;rw[hA];rfl
 rw[e3];simp only[pZ,h.up,h.bk,hS2];rw[xQ (by decide),xQ (by decide)];by_cases c0:er=0
 ·subst c0
  by_cases c1:bA x.bits 0=0
  ·have hpre:kG 0 x.bits=0:=by unfold kG;rw[xQ (by simp)];exact c1
   rw[xQ (by rw[hpre];simp)];by_cases c2:er2=0
   ·rw[xQ (by simpa using c2)]
    cases hdr:wJ ls x.bits 0 [] with
    | none=>exact .inr (.inr (.inr (.inl ⟨rfl,rfl⟩)))
    | some t=>exact .inr (.inr (.inr (.inr ⟨rfl,by rw[<-q1];exact c2,rfl,t.1,t.2,rfl,rfl,q2 c2⟩)))
   ·rw[zQ c2]
    exact .inr (.inr (.inl ⟨rfl,c2,q1⟩))
  ·have hpre:kG 0 x.bits=bA x.bits 0:=by unfold kG;rw[xQ (by simp)]
   rw[zQ (by rw[hpre];exact c1),hpre];exact .inr (.inl ⟨rfl,c1,rfl⟩)
 ·have hpre:kG er x.bits=er:=by unfold kG;rw[zQ c0]
  rw[zQ (by rw[hpre];exact c0),hpre];exact .inl ⟨c0,rfl⟩
theorem fnX {s:K.P.HSt}{paid:List K.P.En}(h:Hs s paid)(hp:paid.length<=9){l:List K.Ds.yQ}{x:Stp}(h3:x.act=3){plan:List Tn}{a:Int}{t:Tn}(ha:0<=a)(ht:plan[a.toNat]? = some t)
  (hq:x.q=t.q/\x.u=t.u/\x.d=t.d/\x.lo=t.lo/\x.hi=t.hi) (k:Nat) {D:List Pt} (hT:eY l ts (fun q=>K.xJ (K.prt l q (lG l))) x.pn plan (k+1) a paid=some D) :
  ∃ s' y,bJ l ts s x=(s',y) /\
   ((y.err=6\/y.err=5\/(y.err=3/\tY x.bits=true))\/(y.err≠0/\D=kZ) \/
    (y.err=0/\∃ vs us lu ld D',y.told=some (vs,us,lu,ld)/\Hs s' (paid++[qF l x lu ld])/\eY l ts (fun q=>K.xJ (K.prt l q (lG l))) x.pn plan k (eU t.ns vs) (paid++[qF l x lu ld])=some D'/\∀ o,0<wt D' o->0<wt D (vs++o))):=by
 obtain⟨⟨ls,lu,ld,er⟩,hA⟩:∃ z,rY x.u x.d x.lo x.hi l ts x.q=z:=⟨_,rfl⟩;obtain⟨s',y,hs,hc⟩:=fnQ h hp h3 hA;refine⟨s',y,hs,?_⟩;obtain⟨e1,e2,e3,e4,e5⟩:=hq;rw[eY,xQ (by omega),ht] at hT;simp only at hT;rw[<-e1,<-e2,<-e3,<-e4,<-e5,hA] at hT;simp only at hT;have hent:uP x.pn (K.xJ (K.prt l x.q (lG l))) lu ld=qF l x lu ld:=rfl;rw[hent,h.dn] at hT;rcases hc with⟨c1,c2⟩|⟨c1,c2,c3⟩|⟨c1,c2,c3⟩|⟨c1,c2⟩|⟨c1,c2,c3,vs,us,c4,c5,c6⟩
 ·rw[xQ c1] at hT
  simp only[zX] at hT;exact .inr (.inl ⟨by rw[c2];exact c1,hT.symm⟩)
 ·refine .inl (.inr ?_)
  rw[c3];unfold bA at c2 ⊢;by_cases g1:65536<x.bits.length
  ·rw[zQ g1];exact .inl rfl
  ·rw[xQ g1] at c2 ⊢
   by_cases g2:((0:Int)<0\/(4096:Int)<0\/tY x.bits=true)
   ·rw[zQ g2]
    refine .inr ⟨rfl,?_⟩;rcases g2 with g2|g2|g2
    ·omega
    ·omega
    ·exact g2
   ·rw[xQ g2] at c2
    exact absurd rfl c2
 ·rw[zQ c1,xQ (by rw[<-c3];exact c2)] at hT
  simp only[zX] at hT;exact .inr (.inl ⟨c2,hT.symm⟩)
 ·exact .inl (.inl c2)
 ·subst c1
  rw[zQ rfl,zQ c2] at hT;obtain⟨y',k1,k2⟩:=(b4Q hT).2 x.bits vs us (fun d hd=>((aaQ hA).1 d hd).2) c4;exact .inr (.inr ⟨c3,vs,us,lu,ld,y',c5,c6,k1,k2⟩)
theorem akQ {l:List K.Ds.yQ}{pt:K.Ds.Qu->Int × Int}{nm:ByteArray}{plan:List Tn}{a:Int}{paid:List K.P.En}{D:List Pt}(h:eY l ts pt nm plan k a paid=some D)(he:k=0\/a<0\/(plan.length:Int)<=a):D=kZ:=by
 cases k with
 | zero=>simp only[eY,zX] at h;exact h.symm
 | succ k =>
  rw[eY] at h;by_cases c:a<0
  ·rw[zQ c] at h;simp only[zX] at h;exact h.symm
  ·rw[xQ c,bL (by omega)] at h
   simp only[zX] at h;exact h.symm
open K.P (HSt Keeps xX oV nV yX wZ enc)
def Las (y:K.P.Sn vU) (n N0:Nat) (ov:Value) (W:World):Prop :=
 ∃ (g c:Nat) (ta:Option Addr) (tn tc:Nat) (xa:Option Addr) (xn xc:Nat) (us lu ld:Int),ov=.slice (some ⟨g,0,none⟩) n c/\N0<=g/\g<W.heap.size /\
  W.rangeAt g (0+(n - 1)*6) [.int .i64 y.err,.slice ta tn tc,.int .i64 us,.int .i64 lu,.int .i64 ld,.slice xa xn xc] /\
  ∀ vs k p q,y.told=some (vs,k,p,q)->∃ gz,ta=some ⟨gz,0,none⟩/\tn=vs.length/\tc=vs.length/\vs≠[]/\vs.length<=4096/\N0<=gz/\gz<W.heap.size/\K.RowI W gz vs
theorem fnZ {s:HSt}(h:s.left = -1)(hb:s.brk=false)(e:K.P.En):(K.P.vZ s e).1.left = -1/\(K.P.vZ s e).1.brk=false/\(K.P.vZ s e).1.up=s.up:=by
 unfold K.P.vZ;have:=K.P.aiZ (K.P.wrs s.done.length (K.P.nrm e)) s.disk;rw[h]
 repeat' split
 all_goals simp_all
theorem fnJ {l:List K.Ds.yQ}(hw:K.Ds.iJ l ts=0){s:HSt}{x:Stp}(ha:x.act=1\/x.act=2\/x.act=3)(h:s.left = -1/\s.brk=false)(hu:x.act≠1->s.up=true):(bJ l ts s x).1.left = -1/\(bJ l ts s x).1.brk=false/\(bJ l ts s x).1.up=true:=by
 unfold bJ jL;rw[xQ (fun h=>by omega),hw];have d:=fnZ h.1 h.2;rcases ha with ha|ha|ha
 ·rw[zQ ha];exact⟨h.1,rfl,by simp[K.P.pZ]⟩
 ·have u:=hu (by omega)
  rw[xQ (by omega),xQ (by omega),zQ ha];simp only[K.P.pZ,u,h.2];exact⟨(d _).1,(d _).2.1,(d _).2.2.trans u⟩
 ·have u:=hu (by omega)
  rw[xQ (by omega),xQ (by omega),xQ (by omega),zQ ha];unfold lC;simp only[K.P.pZ,u,h.2]
  repeat' split
  all_goals first
   | exact⟨h.1,h.2,u⟩
   | exact⟨(d _).1,(d _).2.1,(d _).2.2.trans u⟩
theorem foQ {l:List K.Ds.yQ}(hw:K.Ds.iJ l ts=0){xs:List Stp}(ha:∀ x∈xs,x.act=1\/x.act=2\/x.act=3)(h0:∀ x,xs[0]? = some x->x.act=1)(words:List Int):∀ j x,xs[j]? = some x->(cJ l ts ⟨words,-1,false,false,[]⟩ (xs.take j)).1.brk=false/\(x.act≠1->(cJ l ts ⟨words,-1,false,false,[]⟩ (xs.take j)).1.up=true):=by
 have key:∀ j,j<=xs.length->(cJ l ts ⟨words,-1,false,false,[]⟩ (xs.take j)).1.left = -1/\(cJ l ts ⟨words,-1,false,false,[]⟩ (xs.take j)).1.brk=false/\(0<j->(cJ l ts ⟨words,-1,false,false,[]⟩ (xs.take j)).1.up=true):=by
  intro j
  induction j with
  | zero=>intro _;exact⟨rfl,rfl,fun h=>by omega⟩
  | succ j ih =>
   intro hj;obtain⟨i1,i2,i3⟩:=ih (by omega);obtain⟨x,hx⟩:∃ x,xs[j]? = some x:=⟨_,zJ (by omega)⟩;rw[fZ,hx,Option.toList_some,mC]
   have g:=fnJ hw (ha x (qX hx)) ⟨i1,i2⟩ (fun hn=>by
    by_cases c:0<j
    ·exact i3 c
    ·obtain rfl:j=0:=by omega
     exact absurd (h0 x hx) hn)
   exact⟨g.1,g.2.1,fun _=>g.2.2⟩
 intro j x hx;have hj:=(cQ.1 hx).1;obtain⟨_,k2,k3⟩:=key j (by omega);refine⟨k2,fun hn=>?_⟩;by_cases c:0<j
 ·exact k3 c
 ·obtain rfl:j=0:=by omega
  exact absurd (h0 x hx) hn
def StA (w:World) (B:Nat) (s:Stv):Prop:=sF w B s/\(s.x.act=1\/s.x.act=2\/s.x.act=3)
theorem foX (A:World)(B base:Nat)(cv tv sv:Value)(l:List K.Ds.yQ)(rs:List K.Rw)(ss:List Stv)(y:K.P.Sn vU)
  (hB:B<=A.heap.size) (hp:K.rQ A B cv l) (hr:K.tQ A B tv rs) (hs:A.ownsRow base 41 18 sv ss.length (sfl ss)) (hm:∀ s∈ss,sF A A.heap.size s) (hl:ss.length<=100) (ha:∀ s∈ss,s.x.act=1\/s.x.act=2\/s.x.act=3) (hw:K.Ds.iJ l (K.rr rs)=0) (h0:∀ s,ss[0]? = some s->s.x.act=1)
  (hy:(cJ l (K.rr rs) ⟨List.replicate 100 0,-1,false,false,[]⟩ (ss.map Stv.x)).2[ss.length - 1]? = some y) :
  ∀ V:World,Below A.heap.size A V->Calls prog 9 #[.agg #[cv,tv],.slice (some ⟨V.heap.size,0,none⟩) 100 100,sv] (V.alloc (.cells (madeCells #[.int .i64 0] 100) 2)) fun e W'=>∃ ov sl,e=.returned (.tuple #[ov,sl,.bool true])/\Las y ss.length A.heap.size ov W'/\Below A.heap.size A W':=by
 intro V hV;obtain⟨X,hX⟩:∃ X,V.alloc (.cells (madeCells #[.int .i64 0] 100) 2)=X:=⟨_,rfl⟩;have hbV:Below V.heap.size V X:=hX▸ba _ _;have hbX:Below A.heap.size A X:=bt hV hbV;have hsX:A.heap.size<=X.heap.size:=hbX.size;have hst:=e6X ((e6Q hs hm).keep hbX) (by omega)
 have h1:=e9X A.heap.size cv tv sv l rs (some ⟨V.heap.size,0,none⟩) 100 (List.replicate 100 0) _ X hsX ((hp.at hB hbX).mono hB) ((hr.at hB hbX).mono hB) (fun h=>by cases h) (fun ad ha j u hj=>by
  simp only[zX] at ha;subst ha;have e:(⟨V.heap.size,0,none⟩:Addr).add j=⟨V.heap.size,j,none⟩:=by unfold Addr.add;split <;> simp_all
  refine⟨by rw[<-hX];simp,?_⟩;rw[e,<-hX,sN _ _ _ _ rfl];show(madeCells #[.int .i64 0] 100)[j]? = _;have e:(madeCells #[.int .i64 0] 100)[j]? = (List.replicate 100 (Value.int .i64 0))[j]?:=by rw[<-toList_madeCells_one,Array.getElem?_toList]
  rw[e];rw[xT] at hj ⊢;split at hj
  ·rename_i c
   rw[zQ c];simp only[zX] at hj;rw[<-hj]
  ·cases hj) (fun x hx=>by have:=jT hx;omega) (by decide) hst (by rw[uU];omega) (fun x hx=>by obtain⟨t,ht,rfl⟩:=tX.1 hx;exact ha t ht) hw (foQ hw (fun x hx=>by obtain⟨t,ht,rfl⟩:=tX.1 hx;exact ha t ht) (fun x hx=>by rw[uA] at hx;obtain⟨t,ht,rfl⟩:=rP.1 hx;exact h0 t ht) _)
 rw[hX];refine h1.mono ?_;rintro x5 w' ⟨W0,b1,bw,a,c,hv,ov,s,os,M,G,rfl,hrun,hbel,HI⟩;refine⟨ov,_,rfl,?_,bt hbX hbel⟩
 have hlen:os.length=ss.length:=by
  have:=nC l (K.rr rs) (ss.map Stv.x) ⟨List.replicate 100 0,-1,false,false,[]⟩;rw[hrun] at this;simpa using this
 rw[hrun] at hy;obtain⟨css,o1,o2,o3,o4⟩:=HI.out;obtain⟨cs,g,cap,hov,hg1,hg2,hr2,hs2⟩:=e6J o1 o2 o4 hy;obtain⟨tv',ev',us,lu,ld,rfl,ht,he,_⟩:=hs2;obtain⟨xa,xc,rfl⟩:=wZ he
 obtain⟨ta,tn,tc,rfl⟩:∃ ta tn tc,tv' = .slice ta tn tc:=by
  rcases ht with⟨_,h,_⟩|⟨_,_,_,_,_,_,_,h,_⟩
  ·exact⟨_,_,_,h⟩
  ·exact⟨_,_,_,h⟩
 refine⟨g,cap,ta,tn,tc,xa,_,xc,us,lu,ld,by rw[hov,hlen],by omega,hg2,hr2,fun vs k p q hq=>?_⟩;rcases ht with⟨h,_⟩|⟨vs',n,gz,h,n1,n2,_,hv,_,hG,hrow⟩
 ·rw[hq] at h;cases h
 ·rw[hq] at h
  simp only[zX,fQ] at h;obtain⟨rfl,_⟩:=h;simp only[gZ] at hv;exact⟨gz,hv.1,hv.2.1,hv.2.2,n1,n2,by have:=(HI.gg gz hG).1;omega,(HI.gg gz hG).2.1,hrow⟩
theorem b4X {l:List K.Ds.yQ}{xs:List Stp}{x:Stp}{s0 s s':HSt}{ys:List (K.P.Sn vU)}{y:K.P.Sn vU}(h:cJ l ts s0 xs=(s,ys))(hs:bJ l ts s x=(s',y)):∃ zs,cJ l ts s0 (xs++[x])=(s',zs)/\zs[xs.length]? = some y:=by
 have hl:=nC l ts xs s0;rw[h] at hl;refine⟨ys++[y],by rw[mC,h,hs],?_⟩;rw[jF (by simp at hl;omega)];simp at hl;simp[hl]
theorem akJ:(prog.info? 66).map (fun i=>i.size)=some 11:=by kernel_rfl
theorem foZ:(prog.info? 36).map (fun i=>i.size)=some 6:=by kernel_rfl
theorem b4Z (a:Stv):prog.builtSlice 41 1 [(0,.agg a.cs.toArray)]=some (sfl [a]).toArray:=by kernel_rfl
theorem foJ (v0:Int)(v1:ByteArray)(v2 v3:Int)(a4:Option Addr)(n4 c4:Nat)(a5:Option Addr)(n5 c5:Nat)(u d lo hi:Int) :
  prog.built 39 [(0,.string dV),(1,.agg #[.int .i64 v0,.string v1,.int .i64 v2,.int .i64 v3,.slice a4 n4 c4,.slice a5 n5 c5]),(2,.agg #[.int .i64 u,.int .i64 d]),(3,.int .i64 lo),(4,.int .i64 hi)]=some #[.string dV,.int .i64 v0,.string v1,.int .i64 v2,.int .i64 v3,.slice a4 n4 c4,.slice a5 n5 c5,.int .i64 u,.int .i64 d,.int .i64 lo,.int .i64 hi,.slice none 0 0]:=by kernel_rfl
theorem fpQ {o:Oper}{a:Act}(hg:o.guard=none)(t:TypeId)(n0 n1 n2 n3 n4:Nat)(x0 x1 x2 x3 x4:Operand)(ho:o.op=.build t #[(n0,x0),(n1,x1),(n2,x2),(n3,x3),(n4,x4)])(d:Option Tmp)(hd:o.dst=d)
  (v0 v1 v2 v3 v4:Value) (h0:a.eval x0=v0) (h1:a.eval x1=v1) (h2:a.eval x2=v2) (h3:a.eval x3=v3) (h4:a.eval x4=v4) (cells:Array Value) (hf:P.built t [(n0,v0),(n1,v1),(n2,v2),(n3,v3),(n4,v4)]=some cells)
  (h:wpList P ops Q rest (a.put d (.agg cells)) w):wpList P ops Q (o::rest) a w:=wpList_buildTo hg t _ ho d hd cells (by subst h0 h1 h2 h3 h4;simpa using hf) h
theorem fpX (h:K.RowI w g xs)(hl:xs.length<=1073741824)(B:Nat)(hB:g<B):K.jQ w B B (.slice (some ⟨g,0,none⟩) xs.length xs.length) xs :=
 ⟨some ⟨g,0,none⟩,xs.length,rfl,vQ _,by omega,fun _=>⟨g,0,rfl,hB,by omega,fun i x hi=>by rw[xZ];exact h.cells i x hi⟩⟩
theorem rS (h:w.ownsRow base 3 1 v xs.length (xs.map (.int .i64)))(hl:xs.length<=1073741824):jQ w w.heap.size w.heap.size v xs:=by
 rcases h.2 with⟨rfl,h0⟩|⟨g,cap,cur,rfl,hb,hc,hn,hm,_⟩
 ·obtain rfl:xs=[]:=jI.1 h0
  exact dI _ _ _
 ·have hlt:=(yJ.1 hc).1
  refine⟨_,cap,rfl,hn,by omega,fun _=>⟨g,0,rfl,hlt,by omega,fun i x hi=>?_⟩⟩;have h3:=h.cells (g:=g) rfl i (.int .i64 x) (by rw[uA,hi];rfl);have e:(⟨g,0,none⟩:Addr).add i=⟨g,0+i,none⟩:=by unfold Addr.add;split <;> simp_all
  rwa [e] at h3
theorem fpZ (B nb:Nat)(v:Value)(x:List Int)(w:World)(hx:K.jQ w B nb v x) :
  Calls prog 16 #[v] w fun e w'=>e=.returned (.bool (tY x))/\w' = w:=by
 obtain⟨a,c,rfl,hc,hl,hxx⟩:=hx;have HX:=qQ hxx;clear hxx;go_enter func16,ntmps16;go_wp2
 go_loop [7] (fun s=>∃ i:Nat,s=.int .i64 (i:Int)/\i<=x.length/\Hid ((x.take i).all gF=true)) (fun s=>x.length - (intOf s).toNat)
 case atStart=>exact⟨0,rfl,kQ _,by simp[Hid]⟩
 case round =>
  obtain⟨i,rfl,hix,HA⟩:=hrel;by_cases h1:i<x.length
  ·obtain⟨b,o,rfl,hb,hn,hcell⟩:=HX.out (ne_of_lt h1)
   obtain⟨z,hz⟩:=cX h1;have cx1:=hcell i z hz;have HZ:=qQ hz;clear hcell HX hz;by_cases c0:z=0
   ·subst c0
    go_wp2
    go_round
    case rel=>exact⟨i+1,by go_num,h1,by rw[Hid,uR HZ.out,HA.out];rfl⟩
    case measure=>simp[intOf];omega
   ·have c0':(z == 0)=false:=by simpa using c0
    have c0'':(z != 0)=true:=by simpa using c0
    by_cases c1:z=1
    ·subst c1
     go_wp2
     go_round
     case rel=>exact⟨i+1,by go_num,h1,by rw[Hid,uR HZ.out,HA.out];rfl⟩
     case measure=>simp[intOf];omega
    ·have c1':(z == 1)=false:=by simpa using c1
     have c1'':(z != 1)=true:=by simpa using c1
     go_wp2;go_ret;exact⟨by rw[tT,kT HZ.out (by simp[gF,c0,c1])];rfl,rfl⟩
  ·have hi:i=x.length:=by omega
   have hA:x.all gF=true:=by have:=HA.out;rw[hi,zF] at this;exact this
   have HA2:=qQ hA;clear hA HX;go_wp2;go_ret;exact⟨by rw[tT,HA2.out];rfl,rfl⟩
theorem fpJ (h:K.jQ w B nb v xs)(hl:xs.length<=1073741824):jQ w B nb v xs:=by
 obtain⟨a,c,hv,hc,_,hx⟩:=h;exact⟨a,c,hv,hc,hl,hx⟩
theorem fqQ {o:Nat}{t:K.Tu}(h:K.yP w b o t):w.rangeAt b o [t.v0,t.v1,t.v2,t.v3,t.v4,t.v5,.int .i64 t.u,.int .i64 t.d,.int .i64 t.lo,.int .i64 t.hi,t.nv]:=by
 obtain⟨⟨h0,h1,h2,h3,h4,h5⟩,h6,h7,h8,h9,h10⟩:=h;intro j u hj;have hlt:=(cQ.1 hj).1;simp only[pJ,yG] at hlt
 match j,hlt,hj with
 | 0,_,hj=>simp at hj;subst hj;simpa using h0
 | 1,_,hj=>simp at hj;subst hj;exact h1
 | 2,_,hj=>simp at hj;subst hj;exact h2
 | 3,_,hj=>simp at hj;subst hj;exact h3
 | 4,_,hj=>simp at hj;subst hj;exact h4
 | 5,_,hj=>simp at hj;subst hj;exact h5
 | 6,_,hj=>simp at hj;subst hj;exact h6
 | 7,_,hj=>simp at hj;subst hj;exact h7
 | 8,_,hj=>simp at hj;subst hj;exact h8
 | 9,_,hj=>simp at hj;subst hj;exact h9
 | 10,_,hj=>simp at hj;subst hj;exact h10
 | j+11,hlt,_=>omega
end
section
open Go.RowKit
def xF (ns:List K.Nx) (i:Nat) (x:List Int):Prop:=eU (K.nd ns) x=eU (K.nd (ns.drop i)) x
theorem xF.step {ns:List K.Nx}{f:K.Nx}(h:xF ns i x)(hf:ns[i]? = some f)(hne:¬ f.2.1=x):xF ns (i+1) x:=by
 unfold xF at *
 rw[h,lJ (cQ.1 hf).1,(cQ.1 hf).2];simp only[K.nd,xV,eU];rw[xQ hne]
theorem xF.hit {ns:List K.Nx}{f:K.Nx}(h:xF ns i x)(hf:ns[i]? = some f)(he:f.2.1=x):eU (K.nd ns) x=f.2.2:=by
 unfold xF at *
 rw[h,lJ (cQ.1 hf).1,(cQ.1 hf).2];simp only[K.nd,xV,eU];rw[zQ he]
theorem xF.end {ns:List K.Nx}(h:xF ns i x)(hi:ns.length<=i):eU (K.nd ns) x = -1:=by
 unfold xF at *
 rw[h,fY hi];rfl
theorem b4J (B C:Nat)(t:K.Tu)(xv:Value)(x:List Int)(w:World)(hB:B<=w.heap.size)(hC:C<=w.heap.size)(hq:K.Qm w B t.q t.v0 t.v1 t.v2 t.v3 t.v4 t.v5)(hn:K.xA w B t.nv t.ns)(hx:K.jQ w C C xv x)(r:Int)(hr:eU (K.nd t.ns) x=r) :
  Calls prog 17 #[K.tuv t,xv] w fun e w'=>e=.returned (.int .i64 r)/\Below w.heap.size w w':=by
 obtain⟨v0,v1,v2,v3,v4,v5,q,u,d,lo,hi,nv,ns⟩:=t;simp only at hq hn hr;have HN:=qQ hn;have HX:=qQ hx;have HR:=qQ hr;obtain⟨kk,kc,kl,kh,ka,kn,kd,kb,km,kp,rfl,rfl,rfl,rfl,rfl,rfl⟩:=hq.shape;obtain⟨na,nc,rfl,hnc,hnl⟩:=hn.slice;obtain⟨xa,xc,rfl,_⟩:=hx;clear hr hq hn;have hbW:Below w.heap.size w (w.alloc (.cells #[.int .i64 kk,.string kc,.int .i64 kl,.int .i64 kh,.slice ka kn kd,.slice kb km kp,.int .i64 u,.int .i64 d,.int .i64 lo,.int .i64 hi,.slice na ns.length nc] 66)):=K.ba _ _;go_enter func17,ntmps17;go_wp2
 go_loopw [10] (fun s wr=>∃ i:Nat,s=.int .i64 (i:Int)/\i<=ns.length/\Hid (xF ns i x)/\Below w.heap.size w wr) (fun s _=>ns.length - (intOf s).toNat)
 case atStart=>exact⟨0,rfl,kQ _,by simp[Hid,xF],hbW⟩
 case round =>
  obtain⟨i,rfl,hit,HT,hbl⟩:=hrel;have hbs:=hbl.size;by_cases h1:i<ns.length
  ·obtain⟨b,o,sa,sc,gs,k,rfl,hb,hs,d1,d2,hI⟩:=HN.out.get hB hbl h1
   have HS:=qQ hs;have hb1:Below wr.heap.size wr (wr.alloc (.cells #[.slice sa gs.length sc,.int .i64 k] 113)):=K.ba _ _;obtain⟨c,hc⟩:∃ c,Ds.nX gs x=c:=⟨_,rfl⟩;have HE:=qQ hc;have kcm:=K.e9Z wr.heap.size B C (.slice sa gs.length sc) (.slice xa x.length xc) gs x (wr.alloc (.cells #[.slice sa gs.length sc,.int .i64 k] 113)) ((hI.keep (hb1.mono (by omega))).mono (by omega) (.inl rfl)) ((HX.out.keep ((K.bt hbl hb1).mono hC)).mono (by omega) (.inl rfl)) c hc;clear hs hI hc;go_wp2_with fail;refine kcm.mono ?_;rintro e w2 ⟨rfl,q,rfl⟩;clear kcm;by_cases h2:c=0
   ·subst h2
    have HY:Hid (k=r):=by have:=HT.out.hit HS.out ((Ds.dH _ _).1 HE.out);rw[HR.out] at this;exact this.symm
    obtain rfl:=HY.out;go_wp2;go_ret;exact⟨by first|rfl|simp,Go.below_drewN (K.bt hbl hb1) _⟩
   ·have HT2:Hid (xF ns (i+1) x):=HT.out.step HS.out (fun he=>h2 (by rw[<-HE.out];exact(Ds.dH _ _).2 he))
    have h3:(c == 0)=false:=by simpa using h2
    go_wp2
    go_roundw
    case rel=>exact⟨i+1,by go_num,h1,HT2,Go.below_drewN (K.bt hbl hb1) _⟩
    case measure=>simp[intOf];omega
  ·have HY:Hid (-1=r):=by rw[<-HR.out];exact(HT.out.end (by omega)).symm
   obtain rfl:=HY.out;go_wp2;go_ret;exact⟨by first|rfl|simp,hbl⟩
