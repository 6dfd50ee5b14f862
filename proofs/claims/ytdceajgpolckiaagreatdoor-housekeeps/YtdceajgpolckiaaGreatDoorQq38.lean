import Derived.Test.YtdceajgpolckiaaGreatDoorQq37
open Go.Proofs.Tryz
set_option linter.unusedSimpArgs false
set_option maxHeartbeats 16000000
set_option maxRecDepth 100000
namespace Go.Proofs.YtdceajgpolckiaaGreatDoor
section
open Go.RowKit Ds
open K (Cl)
open K.P (HSt Keeps oQ eX rJ kX HouK DskM xG xZ dQ Ev Sn dA zZ TwoB sJ kV dD yZ qG gZ eF enc gM iX uJ vZ wrs nrm cZ sU eJ dU octs uV tP xR zR)
theorem dyQ {n:Nat}(h:n<18446744073709551616):aX (sU n):=by
 unfold sU aX;split <;> omega
theorem dyX (s:ByteArray):sJ (eJ (dU s)):=by
 intro x hx;unfold eJ at hx;obtain⟨w,_,rfl⟩:=tZ.1 hx;have h:=tP (xR (zR s) w);have h8:(octs (dU s) w).length=8:=by simp[octs]
 rw[h8] at h;exact dyQ (by simpa using h)
theorem nF {u d:Int}(h:Rt.fQ u d=true):aX u/\aX d:=by
 unfold Rt.fQ Rt.mx at h;simp only[oV] at h;unfold aX;omega
theorem dyZ {done:List K.P.En}{e:K.P.En}(h:cZ done (nrm e)=0):sJ (vZ (nrm e)):=by
 obtain⟨h1,h2,h3,h4⟩:=K.P.xH (K.P.pN h).1;have hb:=nF h4.1
 have hp:aX (nrm e).2.2.1:=by
  by_cases c:e.1=3
  ·have e1:nrm e=e:=by simp[nrm,c]
   rw[e1] at h ⊢;unfold cZ at h;split at h
   ·exact absurd h (by assumption)
   ·split at h
    ·cases h
    ·split at h
     ·rw[qQ (by omega)] at h;cases h
     ·rw[qQ (by omega)] at h
      split at h
      ·cases h
      ·rename_i c3
       unfold aX;omega
  ·have e1:(nrm e).2.2.1=0:=by simp[nrm,c]
   rw[e1];exact⟨by omega,by omega⟩
 intro x hx;simp only[vZ,zY,yX,jJ,vJ] at hx;rcases hx with(rfl|rfl|rfl|rfl|rfl)|hx
 ·omega
 ·omega
 ·exact hp
 ·exact hb.1
 ·exact hb.2
 ·exact dyX _ x hx
theorem dyJ {disk:List Int}(h:sJ disk):∀ {ws:List (Nat × Int)},(∀ p∈ws,aX p.2)->sJ (uJ disk ws):=by
 intro ws
 induction ws generalizing disk with
 | nil=>intro _;exact h
 | cons p ws ih =>
  intro hw;refine ih (disk:=disk.set p.1 p.2) ?_ (fun q hq=>hw q (by simp[hq]));intro x hx;rcases aI hx with hx|rfl
  ·exact h x hx
  ·exact hw p (by simp)
theorem dzQ {n:Nat}{e:K.P.En}(h:sJ (vZ e)):∀ p∈wrs n e,aX p.2:=by
 intro p hp;simp only[wrs,yX,zY,tZ,jK,jJ,vJ] at hp;rcases hp with rfl|⟨j,hj,rfl⟩|rfl
 ·exact⟨by simp,by simp⟩
 ·refine h _ ?_
  have hl:=K.P.rN e;rw[List.getD_eq_getElem?_getD,dZ (by omega)];simp
 ·exact⟨by simp,by simp⟩
theorem dzX {disk:List Int}{ws:List (Nat × Int)}:∀ {left:Int},aX left->aX (iX disk left ws).2.1:=by
 induction ws generalizing disk with
 | nil=>intro l h;exact h
 | cons p ws ih =>
  intro l h;obtain⟨a,x⟩:=p;simp only[iX];split
  ·exact⟨by simp,by simp⟩
  ·refine ih ?_
   unfold aX at h ⊢;split <;> omega
theorem axQ {s:HSt}{e:K.P.En}(h:sJ s.disk)(hl:aX s.left):sJ (xZ s e).1.disk/\aX (xZ s e).1.left:=by
 unfold xZ;split
 ·exact⟨h,hl⟩
 ·split
  ·exact⟨h,hl⟩
  ·rename_i c
   have hr:=dyZ (by simpa using c);obtain⟨d',l',ok,hp⟩:∃ d' l' ok,iX s.disk s.left (wrs s.done.length (nrm e))=(d',l',ok):=⟨_,_,_,rfl⟩;obtain⟨m,h1,h2,_⟩:=K.P.iB hp
   have hd:sJ d':=by
    rw[h2];exact dyJ h (fun p hp=>dzQ hr p (lF hp))
   have hle:aX l':=by
    have:=dzX (disk:=s.disk) (ws:=wrs s.done.length (nrm e)) hl;rw[hp] at this;exact this
   rw[hp];split <;> exact⟨hd,hle⟩
theorem axX {s:HSt}{e:K.P.En}:(xZ s e).1.up=s.up:=by
 unfold xZ
 repeat' split
 all_goals rfl
theorem axZ {α:Type}{s s':HSt}{p:Int}{e:K.P.En}{tl:Option α}{y:Sn α}(hs:dQ 0 s (.ask p e tl)=(s',y))(h:sJ s.disk)(hl:aX s.left):sJ s'.disk/\aX s'.left/\s'.up=s.up:=by
 obtain⟨d1,d2⟩:=axQ (e:=e) h hl;have d3:=axX (s:=s) (e:=e);simp only[dQ] at hs
 repeat' split at hs
 all_goals
  simp only[cQ] at hs;obtain⟨rfl,_⟩:=hs
  first|exact⟨h,hl,rfl⟩|exact⟨d1,d2,d3⟩
theorem dzZ {α:Type}(s:HSt)(p:Int)(e:K.P.En)(tl:Option α):∃ s' er t2,dQ 0 s (.ask p e tl)=(s',⟨er,t2,[]⟩):=by
 simp only[dQ]
 repeat' split
 all_goals exact⟨_,_,_,rfl⟩
theorem dzJ {α:Type}{s s':HSt}{p er:Int}{e:K.P.En}{tl t2:Option α}(h:dQ 0 s (.ask p e tl)=(s',⟨er,t2,[]⟩))(hu:s.up=true):(er≠0->t2=none)/\(er=0->t2=tl):=by
 simp only[dQ,hu] at h;rw[qQ (by simp)] at h;split at h
 ·simp only[cQ,Sn.mk.injEq] at h
  obtain⟨_,rfl,rfl,_⟩:=h;exact⟨fun _=>rfl,fun h=>by cases h⟩
 ·split at h
  ·rename_i hp
   simp only[cQ,Sn.mk.injEq] at h;obtain⟨_,rfl,rfl,_⟩:=h;exact⟨fun _=>rfl,fun h=>absurd h hp⟩
  ·split at h
   ·rename_i hp
    simp only[cQ,Sn.mk.injEq] at h;obtain⟨_,rfl,rfl,_⟩:=h;exact⟨fun _=>rfl,fun h=>absurd h hp⟩
   ·split at h
    ·simp only[cQ,Sn.mk.injEq] at h
     obtain⟨_,rfl,rfl,_⟩:=h;exact⟨fun _=>rfl,fun h=>by cases h⟩
    ·simp only[cQ,Sn.mk.injEq] at h
     obtain⟨_,rfl,rfl,_⟩:=h;exact⟨fun h=>absurd rfl h,fun _=>rfl⟩
theorem axJ {l:List K.Ds.jQ}{ts:List (List Int)}(h:K.Ds.fZ l ts=0):∃ nm0 sz0,l[0]? = some (nm0,sz0)/\dR l=nm0:=by
 have h1:=(K.Ds.iK (K.Ds.gN h).1).1;cases l with
 | nil=>simp at h1
 | cons c l=>exact⟨c.1,c.2,rfl,rfl⟩
theorem d0Q {l:List K.Ds.jQ}{ts:List (List Int)}{S s':HSt}{x:Stp}{nm0:ByteArray}{z ez lu ld e1 er:Int}{ls:List (List Pt)}{t2:Option (List Int × Nat)}(h3:x.act=3)(hw:K.Ds.fZ l ts=0)(hn:dR l=nm0)(hz:K.cA (K.prt l x.q nm0)=(z,ez))(hA:fU x.u x.d x.lo x.hi l ts x.q=(ls,lu,ld,e1))
  (hs:dQ 0 S (.ask (gD e1 x.bits) (zZ x.pn z ez lu ld) (oJ ls x.bits 0 []))=(s',⟨er,t2,[]⟩)):lX l ts S x=(s',⟨er,t2.map fun t=>(t.1,t.2,lu,ld),[]⟩):=by
 unfold lX aJ;rw[qQ (fun h=>by omega),qQ (by omega),qQ (by omega),qQ (by omega),xQ h3];unfold sI;rw[hn,hz,hA,hw,dwX,hs]
theorem ayQ {s:HSt}(h1:s.up=true)(h2:s.brk=false):(⟨s.disk,s.left,true,false,s.done⟩:HSt)=s:=by
 cases s;simp only at h1 h2;subst h1 h2;rfl
theorem HuI.call {W0 wr w' w3:World}{N0 bd bw:Nat}{a:Option Addr}{c:Nat}{l:List K.Ds.jQ}{ts:List (List Int)}{hv hv' ov:Value}{s s':HSt}{xs:List (Sn tU)}{M G:Nat->Prop}(h:HuI W0 wr N0 bd bw a c l ts hv ov s xs M G)
  (hk:Keeps wr w' (fun k=>M k\/k=bd\/k=bw)) (hd:DskM w' bd bw a c s'.disk s'.left) (h64:sJ s'.disk) (hi:aX s'.left) (M' G':Nat->Prop) (hM:∀ k,M' k->M k\/wr.heap.size+2<=k/\k<w'.heap.size) (hG:∀ k,G' k->G k\/wr.heap.size+2<=k/\k<w'.heap.size/\¬ M' k) (hGG:∀ k,G k->G' k)
  (dn:s'.up=false->hv' = .pointer none) (up:s'.up=true->K.Ds.fZ l ts=0/\∃ bh,hv' = .pointer (some ⟨bh,0,none⟩)/\M' bh/\(s'.brk=false->kX w' M' bh bd l ts s'.done)/\(s'.brk=true->Cl w' bh 5 (.bool true))) (hw3:Keeps w' w3 (fun k=>k=wr.heap.size+1)) :
  HuI W0 w3 N0 bd bw a c l ts hv' ov s' xs M' G':=by
 have hbd:=h.ds.c0.lt;have hbw:=h.bs.2.2.1;have hs3:=hw3.size;have hs':=hk.size
 have hne:∀ k,M' k->¬ k=wr.heap.size+1:=fun k m e=>by
  rcases hM k m with m|m
  ·have:=(h.mm k m).2.1;omega
  ·omega
 have hk3:Keeps wr w3 (fun k=>M k\/k=bd\/k=bw) :=
  ⟨hw3.os.trans hk.os,hw3.tape.trans hk.tape,hw3.output.trans hk.output,by omega,fun k k1 k2=>(hw3.block k (by omega) (by omega)).trans (hk.block k k1 k2)⟩
 refine h.step hk3 (hd.kp hw3 (by omega) (by omega)) h64 hi M' G' (fun k m=>(hM k m).imp id (fun m=>by omega)) (fun k m=>(hG k m).imp id (fun m=>⟨by omega,by omega,m.2.2⟩)) hGG dn (fun u=>?_);obtain⟨e,bh,q1,q2,q3,q4⟩:=up u;exact⟨e,bh,q1,q2,fun x=>(q3 x).kp hw3 hne,fun x=>K.P.kY (q4 x) hw3 (hne bh q2)⟩
