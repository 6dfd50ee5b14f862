import Derived.Test.YtdceajgpolckiaaGreatDoorQr40
import Derived.Maps.OwnIn
import Derived.Deep.Upon
open Go.Proofs.Tryz
set_option linter.unusedSimpArgs false
set_option maxHeartbeats 16000000
set_option maxRecDepth 100000
namespace Go.Proofs.YtdceajgpolckiaaGreatDoor
variable {Q:Exit->Act->World->Prop} {w:World} {B base c i j n size sz:Nat} {e t:TypeId} {a:Option Addr} {xs:List Value} {u v:Value} {ops:Array Oper} {o:Oper} {K:Act->World->Prop} {E:Prop}
namespace K.P
open Go.RowKit Go.Shelf K.Ds
attribute [local go_sem] Oper.semAt_some
def b5Q (Q:Exit->Act->World->Prop):Exit->Act->World->Prop
 | .ret,a,w=>Q .ret a w
 | .normal,a,w=>Q .normal a w
 | _,_,_=>False
theorem fqX :∀ e a w,b5Q Q e a w->Q e a w:=by
 intro e a w h;cases e <;> first|exact h|exact h.elim
theorem b5X (B:Nat)(lv:Value)(l:List En)(w:World)(hB:B<=w.heap.size)(hx:kJ w B lv l)(hln:l.length<=4398046511104)(hbd:∀ e∈l,-9223372036854775808<=e.2.2.1/\e.2.2.1<=9223372036854775807) :
  Calls prog 31 #[lv] w (brJ l w):=by
 have HX:=qQ hx;have HBD:=qQ hbd;obtain⟨a,c,rfl,hc,hl⟩:=hx.slice;clear hx hbd;obtain⟨i34,hi34,hz0,hz1,hz2⟩:=zV ehQ;have kn:=fun W hW=>eR (fun k=>w.heap.size+1<=k) W hW;refine(aA (n:=8)).1 ?_;refine callsIn_of_wp_marks func31 rfl trivial ?_ rfl;refine wpIn_wide.2 ?_;refine wp_mono (Q:=b5Q _) ?_ fqX;simp only[ntmps31,eE,pJ,yG,Nat.reduceAdd,Nat.reduceSub,fE,gE,iE,kE,tN,qG];go_wp2_with fail;refine(kn _ (fun k hk=>by simpa using hk)).mono ?_;rintro e0 w1 ⟨rfl,hb1,hs1,hM⟩;simp only[cP] at hb1 hs1 hM ⊢;obtain⟨w2,hw2⟩:∃ w2,(w1.alloc (.cells #[.pointer (some ⟨w.heap.size+1+1,0,none⟩)] 133)).alloc (.cells #[nilv,nilv,nilv,nilv,nilv,.bool false] 103)=w2:=⟨_,rfl⟩
 have HS0:Hid (BkL w w2 l 0 nilv):=by
  have hl1:Below w.heap.size w w1:=bt (ba _ _) (by simpa using hb1);have hb12:Below w1.heap.size w1 w2:=by rw[<-hw2];exact bal (ba _ _) _
  have r1:SixB w1 w.heap.size nilv nilv nilv nilv nilv (.bool false):=(SixB.new w _ _ _ _ _ _ _ rfl).below (by simpa using hb1);refine⟨⟨0,.slice none 0 0,.map [],?_⟩,?_,?_,r1.below hb12,⟨rfl,.inl ⟨rfl,rfl⟩⟩,bt hl1 hb12,?_⟩
  ·exact(hM.mono (fun k hk hn=>⟨hn,by omega,by omega,by simp[Value.ownBlock]⟩)).keep hb12
  ·rw[<-hw2]
   have h:=(jO w1 133 (.pointer (some ⟨w.heap.size+1+1,0,none⟩))).alloc (.cells #[nilv,nilv,nilv,nilv,nilv,.bool false] 103);rw[hs1] at h;exact h
  ·rw[<-hw2];exact SixB.new _ _ _ _ _ _ _ _ (by simp;omega)
  ·rw[<-hw2];simp;omega
 have hs2:w2.heap.size=w.heap.size+5:=by rw[<-hw2];simp;omega
 clear hM hb1 kn;go_wp2_with fail
 go_loopw [20] (fun s wr=>∃ (k:Nat) (er:Value),s=.int .i64 (k:Int)/\k<=l.length/\Hid (BkL w wr l k er)) (fun s _=>l.length - (intOf s).toNat)
 case atStart=>exact⟨0,nilv,rfl,kQ _,HS0⟩
 case round =>
  obtain⟨k,er,rfl,hk,HL⟩:=hrel;obtain⟨ea,ec,rfl⟩:=wZ HL.out.row;by_cases hk1:k<l.length
  ·obtain⟨b,o,d,nm,p,u,v,rfl,hb,hg,e0,e1,e2,e3,e4,hnm⟩:=HX.out.get hB (HL.out.low) hk1
   have HG:=qQ hg;have hpI:=HBD.out _ (qX hg);obtain⟨n,vv,D,hBM⟩:=HL.out.bk;have hsz:=HL.out.sz;have HNB:Hid (∀ x,wr.heap.size+1<=x->yD w.heap.size (.slice ea k ec) x):=fun x hx=>⟨by omega,by omega,by omega,fun c=>by have:=(yX HL.out.row c).2;omega⟩;have HBM:=qQ hBM;have px:wr.cell? ⟨w.heap.size+1+1+1,0,none⟩=some (.pointer (some ⟨w.heap.size+1+1,0,none⟩)):=HL.out.px.cell;have o0:wr.cell? ⟨w.heap.size+1+1+1+1,0,none⟩=some (.slice ea k ec):=HL.out.out.c0;have of0:wr.frozen? ⟨w.heap.size+1+1+1+1,0,none⟩=false:=HL.out.out.f0;have hlp:w.heap.size+1+1+1<wr.heap.size:=by omega
   have hlo:w.heap.size+1+1+1+1<wr.heap.size:=by omega
   have kd:=fun W (hW:BookM W (yD w.heap.size (.slice ea k ec)) (w.heap.size+1+1) (w.heap.size+1) n vv D (mX [] (l.take k)).2) hN=>aeJ (yD w.heap.size (.slice ea k ec)) (w.heap.size+1+1) (w.heap.size+1) n vv D (mX [] (l.take k)).2 (d,nm,p,u,v) W hW hnm hN hpI;obtain⟨X,hX⟩:∃ X,wr.alloc (.cells #[.int .i64 d,.string nm,.int .i64 p,.int .i64 u,.int .i64 v] 53)=X:=⟨_,rfl⟩;have hzX:X.heap.size=wr.heap.size+1:=by rw[<-hX];simp
   have hbX:Below wr.heap.size wr X:=by rw[<-hX];exact ba _ _
   have VX:=FivB.new wr (.int .i64 d) (.string nm) (.int .i64 p) (.int .i64 u) (.int .i64 v) 53 _ rfl;rw[hX] at VX;obtain⟨c0,c1,c2,c3,c4,f0,f1,f2,f3,f4,hlx⟩:=VX;have x0:X.cell? ⟨w.heap.size+1+1+1+1,0,none⟩=some (.slice ea k ec):=(hbX.cell (p:=⟨w.heap.size+1+1+1+1,0,none⟩) hlo).trans o0;have xf:X.frozen? ⟨w.heap.size+1+1+1+1,0,none⟩=false:=(hbX.frozen (p:=⟨w.heap.size+1+1+1+1,0,none⟩) hlo).trans of0;have xp:X.cell? ⟨w.heap.size+1+1+1,0,none⟩=some (.pointer (some ⟨w.heap.size+1+1,0,none⟩)):=(hbX.cell (p:=⟨w.heap.size+1+1+1,0,none⟩) hlp).trans px;have HBX:=qQ (HBM.out.keep hbX);obtain⟨dr,hdr⟩:∃ dr,eX (mX [] (l.take k)).2 (nrm (d,nm,p,u,v))=dr:=⟨_,rfl⟩;clear hg hBM;have HDR:=qQ hdr;have hn4:¬ yD w.heap.size (.slice ea k ec) (w.heap.size+1+1+1+1):=fun c=>c.2.2.1 rfl;have hk44:k+1<=4398046511104:=by omega
   have HXX:=qQ hX;go_wp2_with fail
   go_region_law (first
    | (go_simp;go_at_call 60;refine(kd _ (HBX.out.gb (gJ (jX X none)) (by simp)) (fun x hx=>HNB.out x (by have h':X.heap.size<=x:=hx;omega))).mono ?_;rintro x4 w5 ⟨he,hK5,hB5⟩;obtain rfl:x4=.returned (.int .i64 dr):=(by rw[he,HDR.out]);have hs5:X.heap.size<=w5.heap.size:=hK5.size;have k1:w5.cell? ⟨w.heap.size+1+1+1+1,0,none⟩=some (.slice ea k ec):=(rZ (w:=X.drew) (a:=⟨w.heap.size+1+1+1+1,0,none⟩) (hK5.block _ (show w.heap.size+1+1+1+1<X.heap.size by omega) hn4)).trans x0;have k3:w5.frozen? ⟨w.heap.size+1+1+1+1,0,none⟩=false:=(jV (w:=X.drew) (a:=⟨w.heap.size+1+1+1+1,0,none⟩) (hK5.block _ (show w.heap.size+1+1+1+1<X.heap.size by omega) hn4)).trans xf;have k5:∀ O,(w5.alloc O).cell? ⟨w.heap.size+1+1+1+1,0,none⟩=some (.slice ea k ec):=fun O=>((ba w5 O).cell (p:=⟨w.heap.size+1+1+1+1,0,none⟩) (show w.heap.size+1+1+1+1<w5.heap.size by omega)).trans k1;have k6:∀ O,(w5.alloc O).frozen? ⟨w.heap.size+1+1+1+1,0,none⟩=false:=fun O=>((ba w5 O).frozen (p:=⟨w.heap.size+1+1+1+1,0,none⟩) (show w.heap.size+1+1+1+1<w5.heap.size by omega)).trans k3;go_wp2_with fail)
    | (refine step_append_lies _ rfl _ _ 99 rfl (w.heap.size+5) 28 i34 (.int .i64 0) 1 8 underlying99 hi34 hz0 hz1 hz2 rfl (by decide) (.slice ea k ec) k (tD (mX [] (l.take k)).1) rfl ?_ ⟨w5.heap.size,0,none⟩ 1 1 [.int .i64 dr] rfl rfl ?_ ?_ (by decide) ?_ ?_ ?_ (w5.heap.size+1) ?_ ?_;(exact HL.out.row5 hbX hK5 _);(exact bmQ w5 _ _ _ rfl);(intro z hz;simp at hz;subst hz;rfl);(unfold maxLen;omega);(omega);(simp;omega);(simp);intro g cap w6 hown hgrow hat hlt;have hn0:∀ b,b<w.heap.size+5->some b≠(Value.slice ea k ec).ownBlock:=(fun b hb c=>absurd (yX HL.out.row c.symm).1 (by omega));have k7:w6.cell? ⟨w.heap.size+1+1+1+1,0,none⟩=some (.slice ea k ec):=(hgrow.cell_far ⟨w.heap.size+1+1+1+1,0,none⟩ (by simp;omega) (hn0 (w.heap.size+1+1+1+1) (by omega))).trans (k5 _);have k8:w6.frozen? ⟨w.heap.size+1+1+1+1,0,none⟩=false:=(hgrow.frozen_far ⟨w.heap.size+1+1+1+1,0,none⟩ (by simp;omega) (hn0 (w.heap.size+1+1+1+1) (by omega))).trans (k6 _)))
   all_goals
    have HN:Hid (BkL w (w6.setCell ⟨w.heap.size+1+1+1+1,0,none⟩ (.slice (some ⟨g,0,none⟩) (k+1) cap)) l (k+1) (.slice (some ⟨g,0,none⟩) (k+1) cap)):=by
     refine HL.out.next HG.out (by rw[HXX.out];exact hK5) hB5 ?_ hgrow hat;rw[HDR.out];exact hown
    clear hown hgrow hat hlt hK5 hB5 k1 k3 k5 k6 k7 k8 he hn0 kd;go_wp2
    go_roundw
    case rel=>exact⟨k+1,_,by go_num,by omega,HN⟩
    case measure=>simp[intOf];omega
  ·have hkl:k=l.length:=by omega
   subst hkl;obtain⟨n,vv,D,hBM⟩:=HL.out.bk;rw[zF] at hBM;obtain⟨dn,hdn⟩:∃ dn,(mX [] l).2=dn:=⟨_,rfl⟩;obtain⟨es,hes⟩:∃ es,Hid ((mX [] l).1=es):=⟨_,rfl⟩;have HDN:=qQ hdn;rw[hdn] at hBM;clear hdn;have HROW:Hid (wr.ownsRow (w.heap.size+5) 28 1 (.slice ea l.length ec) l.length (tD es)):=by have h:=HL.out.row;rw[zF,hes.out] at h;exact h
   have HBM:=qQ hBM;have hsz:=HL.out.sz;have px:wr.cell? ⟨w.heap.size+1+1+1,0,none⟩=some (.pointer (some ⟨w.heap.size+1+1,0,none⟩)):=HL.out.px.cell;have hlp:w.heap.size+1+1+1<wr.heap.size:=by omega
   have hlo:w.heap.size+1+1+1+1<wr.heap.size:=by omega
   have ke:=edX _ _ _ _ _ _ _ wr HBM.out;clear hBM;go_wp2_with fail;refine ke.mono ?_;rintro x3 w3 ⟨en,rfl,hrow3,hb3⟩;have hs3:=hb3.size;have O3:SixB w3 (w.heap.size+1+1+1+1) (.slice ea l.length ec) nilv nilv nilv nilv (.bool false):=(HL.out.out:SixB wr (w.heap.size+1+1+1+1) _ _ _ _ _ _).below hb3;obtain⟨W4,hW4⟩:∃ W4,w3.setCell ⟨w.heap.size+1+1+1+1,1,none⟩ en=W4:=⟨_,rfl⟩;have O4:SixB W4 (w.heap.size+1+1+1+1) (.slice ea l.length ec) en nilv nilv nilv (.bool false):=by rw[<-hW4];exact O3.put1 en
   have G4:Hid (w3.grownBy W4 (some (w.heap.size+1+1+1+1))):=by rw[<-hW4];exact nQ (jX _ _) 1 _
   have hn4:¬ yD w.heap.size (.slice ea l.length ec) (w.heap.size+1+1+1+1):=fun c=>c.2.2.1 rfl;have HB4:Hid (BookM W4 (yD w.heap.size (.slice ea l.length ec)) (w.heap.size+1+1) (w.heap.size+1) n vv D dn):=(HBM.out.keep hb3).gb G4.out (fun x hx c=>by simp only[zX] at hx;exact hn4 (hx▸c));have px4:W4.cell? ⟨w.heap.size+1+1+1,0,none⟩=some (.pointer (some ⟨w.heap.size+1+1,0,none⟩)):=((HL.out.px:Boxed wr (w.heap.size+1+1+1) 133 _).kept (wX hb3) (by simp)).kept G4.out (by simp) |>.cell;have t1:=O3.c1;have tf1:=O3.f1;obtain⟨na,nc',rfl⟩:=wZ hrow3;have HE3:=qQ hrow3;have kna:=eeJ _ _ _ _ _ _ _ W4 HB4.out;have hs4:W4.heap.size=w3.heap.size:=by rw[<-hW4];simp
   clear ke hrow3;go_wp2_with fail;refine kna.mono ?_;rintro x5 w5 ⟨g,r,rfl,hb5,hg5,hgl5,hgc5,hrow5⟩;have hs5:=hb5.size;obtain⟨W7,hW7⟩:∃ W7,w5.setCell ⟨w.heap.size+1+1+1+1,5,none⟩ (.bool true)=W7:=⟨_,rfl⟩;have O5:=O4.below hb5;have O7:SixB W7 (w.heap.size+1+1+1+1) (.slice ea l.length ec) (.slice na dn.length nc') nilv nilv nilv (.bool true):=by rw[<-hW7];exact O5.put5 _
   have G7:Hid (w5.grownBy W7 (some (w.heap.size+1+1+1+1))):=by rw[<-hW7];exact nQ (jX _ _) 5 _
   have t5:=O5.c5;have tf5:=O5.f5;clear kna;go_wp2_with fail;obtain⟨b,ra,rc,rfl,hNF,hbl5,hbg⟩:=ehJ hgc5 hgl5 hrow5;have hgP:w3.heap.size<=g:=by omega
   have hbP:w3.heap.size<=b:=by omega
   have hs7:W7.heap.size=w5.heap.size:=by rw[<-hW7];simp
   have HNF:=qQ (hNF.kpt (Kpt.of_gb (K:=fun x=>x=g\/x=b) G7.out (fun x hx=>by rcases hx with rfl|rfl <;> exact⟨by omega,by simp;omega⟩)) (.inl rfl) (.inr rfl));have hinv:=HB4.out.inv;have hops:=hinv.ops;have hsm:(dX dn).length<=64:=by rw[eeQ];exact hops
   have HINV:=qQ hinv;have HB7:Hid (BookM W7 (fun x=>x≠w.heap.size+1+1+1+1) (w.heap.size+1+1) (w.heap.size+1) n vv D dn):=((HB4.out.keep hb5).gb G7.out (fun x hx c=>by simp only[zX] at hx;exact hn4 (hx▸c))).mono (fun x _ hx=>hx.2.2.1);have HO7:=qQ O7;have px7:=qQ ((((HL.out.px:Boxed wr (w.heap.size+1+1+1) 133 _).kept (wX hb3) (by simp)).kept G4.out (by simp)).kept (wX hb5) (by simp) |>.kept G7.out (by simp));have hP7:w.heap.size+1+1+1+1<W7.heap.size:=by omega
   have S7:Hid (Stay (w.heap.size+1+1+1+1) wr.heap.size wr W7):=((((Stay.refl _ _ wr).below hb3 (vQ _)).gb G4.out hs3 (fun x hx=>.inr (by simpa using hx.symm))).below hb5 (by omega)).gb G7.out (by omega) (fun x hx=>.inr (by simpa using hx.symm))
   have HE7:Hid (W7.ownsRow wr.heap.size 53 5 (.slice na dn.length nc') dn.length (enc dn)):=by
    have e4:=uS HE3.out G4.out hlo;exact uS (oZ e4 (wX hb5) (by simp)) G7.out hlo
   obtain⟨i9,hi9,hy0,hy1,hy2⟩:=zV eiQ;obtain⟨i31,hi31,hq0,hq1,hq2⟩:=zV bmJ;clear O3 O4 O5 O7 hNF hrow5 hgc5 hinv hops px px4 t1 tf1 t5 tf5 hW4 hW7;refine(wpIn_wide (n:=8)).1 ?_
   refine efX (K:=fun x=>x=g\/x=b) (by omega) (gf:=110) (lb:=#[.pointer (some ⟨g,0,none⟩)]) rfl (enters_of func110 (by kernel_rfl) rfl) (Hd:=HdN) (S:=dX dn)
    ?seq ?hK ?hps (BkR W7 (w.heap.size+1+1+1+1) (.slice ea l.length ec) (.slice na dn.length nc') dn) (fun _ _ _=>False) (bmZ hP7) (fun _ _ _ _ _ _ h _ _=>h.elim) (fun W' hg=>ehZ HO7.out hg)
    (fun m pre x act Wc V=>act={ tmps:=#[.slice a l.length c,undef,.pointer (some ⟨w.heap.size,0,none⟩),.pointer (some ⟨w.heap.size+1+1+1,0,none⟩),.pointer (some ⟨w.heap.size+1+1+1+1,0,none⟩),undef,u6,.func (.func 110) #[] #[.pointer (some ⟨g,0,none⟩)],encStr x,undef,undef,undef,undef,undef,undef,undef,undef,.pointer (some ⟨w.heap.size+1+1,0,none⟩),.slice a l.length c,.int .i64 (l.length:Int),.int .i64 (l.length:Int),.bool false,u22,u23,u24,u25,u26,u27,u28,u29,u30,u31,u32,.pointer (some ⟨w.heap.size+1+1,0,none⟩),.slice na dn.length nc',.pointer (some ⟨w.heap.size+1+1+1+1,1,none⟩),.pointer (some ⟨w.heap.size+1+1,0,none⟩),.func (.func 110) #[] #[.pointer (some ⟨g,0,none⟩)],.pointer (some ⟨w.heap.size+1+1+1+1,5,none⟩),.func (.func 110) #[] #[.pointer (some ⟨g,0,none⟩)],encStr x,undef,undef,undef,undef,undef,undef,undef,undef,undef,undef,undef,undef,undef,undef,undef,undef,undef,undef,undef,undef,undef,undef,undef,undef,undef,undef,undef,undef,undef,undef,undef,undef,undef,undef,undef,undef,undef,undef,undef,undef,undef,undef,undef,undef,undef,undef,undef,undef,undef],defers:=[] }/\V=Wc/\BkR W7 (w.heap.size+1+1+1+1) (.slice ea l.length ec) (.slice na dn.length nc') dn m pre Wc)
    ?ax ?assign ?body ?done (fun _ _ _ _ _ _ h _=>h.elim)
   case seq =>
    intro W0 hg0 hz;exact nseq 7 (by omega) g b ra rc (dX dn) _ W0 (by omega) (HNF.out.kpt (Kpt.of_gb (K:=fun x=>x=g\/x=b) hg0 (fun x hx=>by rcases hx with rfl|rfl <;> exact⟨by omega,by simp⟩)) (.inl rfl) (.inr rfl)) (.inl rfl) (.inr rfl)
   case hK=>rintro x (rfl|rfl) <;> omega
   case hps=>rintro x Wc V args ⟨_,rfl⟩;rfl
   case ax =>
    rintro m pre x act Wc V ob hm hmc hbb ⟨rfl,rfl,hbr⟩;exact⟨rfl,rfl,(bmZ hP7).put hbr (by omega) (by omega) ob⟩
   case assign =>
    rintro l' m pre x Wc V args hm hmc hpx hi hbb ⟨rfl,rfl⟩;gi_wp2;exact⟨aQ _ _,trivial,trivial,hi⟩
   case body =>
    rintro l' m pre x act Wc' Wc hm hmc hpx hbb ⟨rfl,hWW,hbr⟩;subst hWW;obtain⟨hst,nv,sv,bv,hsix,htr⟩:=hbr;have hxm:x∈dX dn:=hpx.subset (by simp);have hpl:pre.length<64:=by have:=hpx.length_le;simp at this;omega
    obtain⟨hbud,hxl⟩:=ehX HINV.out hxm;obtain⟨sp,hsp⟩:∃ sp,wL dn x=sp:=⟨_,rfl⟩;obtain⟨bu,hbu⟩:∃ bu,sI dn x=bu:=⟨_,rfl⟩;have HSP:=qQ hsp;have HBU:=qQ hbu;rw[hbu] at hbud;have ks:=fun W (hW:BookM W (fun x=>x≠w.heap.size+1+1+1+1) (w.heap.size+1+1) (w.heap.size+1) n vv D dn)=>edJ _ _ _ _ _ _ _ ⟨x.toArray⟩ W hW (by simp[ByteArray.size];omega) bu hbud sp hsp;obtain⟨nva,nvc,rfl⟩:=wZ htr.n;obtain⟨sva,svc,rfl⟩:=wZ htr.s;obtain⟨bva,bvc,rfl⟩:=wZ htr.b;simp only[uU] at hsix htr;have HTR:=qQ htr;have HSIX:=qQ hsix;have HST:=qQ hst;have HA1:Hid (Trio (Wc.alloc (.cells #[encStr x] 9)) m (.slice nva pre.length nvc) (.slice sva pre.length svc) (.slice bva pre.length bvc) pre (pre.map (wL dn)) (pre.map (sI dn))):=htr.none (wX (ba _ _));have s2:=hsix.c2;have hmP:w.heap.size+1+1+1+1<m:=by omega
    have hWP:w.heap.size+1+1+1+1<Wc.heap.size:=hsix.lt;have HNO:Hid ((Value.slice nva pre.length nvc).ownBlock≠some (w.heap.size+1+1+1+1)):=fun e=>by have:=(yX htr.n e).1;omega
    clear hst hsix htr hsp hbu hbud hpx hxm;gi_wp2_with (gi_at_builtin;refine wpListIn_append_own_at _ rfl _ _ 100 rfl m 9 i9 (.string ⟨#[]⟩) 1 16 underlying100 hi9 hy0 hy1 hy2 rfl (by decide) (.slice nva pre.length nvc) pre.length (pre.map encStr) rfl HA1.out.n ⟨Wc.heap.size,0,none⟩ 1 1 [encStr x] rfl ?q1 ?q2 ?q3 ?q4 ?q5 ?q6 ?_)
    case q1=>rfl
    case q2=>exact bmQ Wc _ _ _ rfl
    case q3=>intro z hz;simp at hz;subst hz;rfl
    case q4=>unfold maxLen;omega
    case q5=>omega
    case q6=>simp;omega
    intro nv' w5' hown hgrow hnil hat;obtain⟨nva',nvc',rfl⟩:=wZ hown;obtain⟨A3,hA3⟩:∃ A3,w5'.setCell ⟨w.heap.size+1+1+1+1,2,none⟩ (.slice nva' (pre.length+1) nvc')=A3:=⟨_,rfl⟩;have G3:w5'.grownBy A3 (some (w.heap.size+1+1+1+1)):=by rw[<-hA3];exact nQ (jX _ _) 2 _
    have hsw5:Wc.heap.size+1<=w5'.heap.size:=by have:=hgrow.size;simpa using this
    have s5:SixB w5' (w.heap.size+1+1+1+1) (.slice ea l.length ec) (.slice na dn.length nc') (.slice nva pre.length nvc) (.slice sva pre.length svc) (.slice bva pre.length bvc) (.bool true):=(HSIX.out.gb (wX (ba _ _)) (by simp)).gb hgrow (fun e=>HNO.out e.symm);have HS3:Hid (SixB A3 (w.heap.size+1+1+1+1) (.slice ea l.length ec) (.slice na dn.length nc') (.slice nva' (pre.length+1) nvc') (.slice sva pre.length svc) (.slice bva pre.length bvc) (.bool true)):=by rw[<-hA3];exact s5.put2 _
    have HT3:=qQ ((HA1.out.name hgrow hown (by simpa using hat)).low G3 hmP);have HC3:Hid (Stay (w.heap.size+1+1+1+1) m Wc A3):=(((Stay.refl _ _ Wc).below (ba _ _) hmc).gb hgrow (by simp;omega) (fun y hy=>.inl (yX HTR.out.n hy).1)).gb G3 (by omega) (fun y hy=>.inr (by simpa using hy.symm));have HST3:=qQ (HST.out.trans (HC3.out.mono (by omega)));have HB3:=qQ (HB7.out.gb HST3.out.grown (fun y hy c=>c (by simpa using hy.symm)));have p3:A3.cell? ⟨w.heap.size+1+1+1,0,none⟩=some (.pointer (some ⟨w.heap.size+1+1,0,none⟩)):=(px7.out.kept HST3.out.grown (by simp)).cell;have k2:=s5.c2;have kf2:=s5.f2;have hsA3:A3.heap.size=w5'.heap.size:=by rw[<-hA3];simp
    have k16:=ks A3 HB3.out;clear hown hgrow hnil hat G3 s5;gi_wp2_with fail;refine⟨trivial,?_⟩;refine(show CallsIn (Fence.wide.inRound l') 5 prog 62 _ _ _ from (aA (n:=5)).2 k16).mono ?_;rintro e6 w6 ⟨rfl,hb6⟩;have hs6:=hb6.size;obtain⟨A4,hA4⟩:∃ A4,(w6.alloc (.cells #[.int .i64 sp.1,.int .i64 sp.2] 32)).alloc (.cells #[.int .i64 bu.1,.int .i64 bu.2] 32)=A4:=⟨_,rfl⟩;have hsA4:A4.heap.size=w6.heap.size+1+1:=by rw[<-hA4];simp
    have B4:Below w6.heap.size w6 A4:=by rw[<-hA4];exact bal (ba _ _) _
    have g34:A3.grownBy A4 none:=bY (wX hb6) (wX B4);have S4:=HS3.out.gb g34 (by simp);obtain⟨A5,hA5⟩:∃ A5,A4.setCell ⟨w.heap.size+1+1+1+1,5,none⟩ (.bool true)=A5:=⟨_,rfl⟩;have G5:A4.grownBy A5 (some (w.heap.size+1+1+1+1)):=by rw[<-hA5];exact nQ (jX _ _) 5 _
    have hsA5:A5.heap.size=A4.heap.size:=by rw[<-hA5];simp
    have HS5:Hid (SixB A5 (w.heap.size+1+1+1+1) (.slice ea l.length ec) (.slice na dn.length nc') (.slice nva' (pre.length+1) nvc') (.slice sva pre.length svc) (.slice bva pre.length bvc) (.bool true)):=by rw[<-hA5];exact S4.put5 _
    have HT5:=qQ ((HT3.out.none g34).low G5 hmP);have HC5:=qQ (((HC3.out.below hb6 (by omega)).below B4 (by omega)).gb G5 (by omega) (fun y hy=>.inr (by simpa using hy.symm)))
    have T1:TwoB A5 w6.heap.size (.int .i64 sp.1) (.int .i64 sp.2):=by
     refine TwoB.gb ?_ G5 (by simp;omega);rw[<-hA4];exact(TwoB.new _ _ _ 32 _ rfl).below (ba _ _)
    have T2:TwoB A5 (w6.heap.size+1) (.int .i64 bu.1) (.int .i64 bu.2):=by
     refine TwoB.gb ?_ G5 (by simp;omega);rw[<-hA4];exact TwoB.new _ _ _ 32 _ (by simp)
    have r5:=S4.c5;have rf5:=S4.f5;have HT1:=qQ T1;have HT2:=qQ T2;have hm6:m<=w6.heap.size:=by omega
    have HSB:Hid ((∀ g,(Value.slice sva pre.length svc).ownBlock=some g->m<=g/\g<w6.heap.size)/\(∀ g,(Value.slice bva pre.length bvc).ownBlock=some g->m<=g/\g<w6.heap.size)):=by
     have h0:Wc.heap.size<=w6.heap.size:=by omega
     exact⟨fun g hg=>by have:=yX HTR.out.s hg;omega,fun g hg=>by have:=yX HTR.out.b hg;omega⟩
    clear k16 ks g34 S4 p3 k2 kf2 T1 T2;gi_wp2_with fail;refine eoQ (fun h=>by obtain⟨_,_,h⟩:=h;exact h) (fun _ _ _ h=>h) _ _ _ _ _ _ _ _ _ _ _ _ _ _ _ _ _ _ _ _ _ _ _ _ _ _ _ _ _ _ _ _ _ _ _ _ _ _ _ _ _ _ _ _ _ _ _ _ _ _ _ _ _ _ _ _ _ _ _ _ _ _ _ _ _ _ _ _ _ _ _ _ _ _ _ _ _ _ _ _ _ _ _ _ _ _ _ Wc A5 (w.heap.size+1+1+1+1) m w6.heap.size pre.length (.slice ea l.length ec) (.slice na dn.length nc') (.slice nva' (pre.length+1) nvc') sva bva svc bvc (pre++[x]) (pre.map (wL dn)) (pre.map (sI dn)) sp bu hpl (by simp) (by simp) hmP hm6 ⟨HS5.out,HT1.out,HT2.out,HC5.out⟩ HT5.out HSB.out.1 HSB.out.2 ?_;intro a' Wf sv' bv' hMf hTf;rw[<-HSP.out,<-HBU.out] at hMf hTf;obtain⟨hend,hsf⟩:=eiX HST.out (by omega) hmP hm6 hMf hTf;refine⟨hend,hsf.kpt ?_⟩;rintro y ((rfl|rfl)|⟨hy1,hy2⟩)
    ·exact⟨by omega,by omega⟩
    ·exact⟨by omega,by omega⟩
    ·exact⟨hy2,by omega⟩
   case done =>
    rintro DD m V hD hDm ⟨hst,nv,sv,bv,hsix,htr⟩ hd;have HST:=qQ hst;obtain⟨nva,nvc,rfl⟩:=wZ htr.n;obtain⟨sva,svc,rfl⟩:=wZ htr.s;obtain⟨bva,bvc,rfl⟩:=wZ htr.b;simp only[uU] at hsix htr;have HTR:=qQ htr;have hsV:=hst.size;have hDV:DD<V.heap.size:=(yJ.1 hd).1;obtain⟨V1,hV1⟩:∃ V1,(V.alloc (.cells #[.int .i64 0] 3)).alloc (.cells #[.bool false] 4)=V1:=⟨_,rfl⟩;have hbV:Below V.heap.size V V1:=by rw[<-hV1];exact bal (ba _ _) _
    have hzV:V1.heap.size=V.heap.size+1+1:=by rw[<-hV1];simp
    have X1:Boxed V1 V.heap.size 3 (.int .i64 0):=by rw[<-hV1];exact(jO V 3 _).alloc _
    have X2:Boxed V1 (V.heap.size+1) 4 (.bool false):=by
     rw[<-hV1];have h:=jO (V.alloc (.cells #[.int .i64 0] 3)) 4 (.bool false);rwa [cP] at h
    have S1:=hsix.below hbV;have HJ0:Hid (ClJ V1 (w.heap.size+1+1+1+1) V.heap.size (V.heap.size+1) (.slice ea l.length ec) (.slice na dn.length nc') (.slice nva (dX dn).length nvc) (.slice sva (dX dn).length svc) (.slice bva (dX dn).length bvc) 0 V1):=⟨⟨S1,jU _ _⟩,X1,X2⟩;have NF1:NamF V1 g b ra rc (dX dn):=(HNF.out.kpt (hst.kpt (K:=fun x=>x=g\/x=b) (fun y hy=>by rcases hy with rfl|rfl <;> exact⟨by omega,by omega⟩)) (.inl rfl) (.inr rfl)).kpt (Kpt.of_below (K:=fun x=>x=g\/x=b) hbV (fun y hy=>by rcases hy with rfl|rfl <;> omega)) (.inl rfl) (.inr rfl)
    have kf:=nfun 8 (by omega) g b ra rc (dX dn) (fun x=>x=g\/x=b) V1 (by omega) NF1 (.inl rfl) (.inr rfl) #[.pointer (some ⟨w.heap.size+1+1+1+1,0,none⟩),.pointer (some ⟨V.heap.size+1,0,none⟩),.pointer (some ⟨V.heap.size,0,none⟩)]
     (fun _ pre W=>ClJ V1 (w.heap.size+1+1+1+1) V.heap.size (V.heap.size+1) (.slice ea l.length ec) (.slice na dn.length nc') (.slice nva (dX dn).length nvc) (.slice sva (dX dn).length svc) (.slice bva (dX dn).length bvc) pre.length W)
     (fun _ _ W=>ClK V1 (w.heap.size+1+1+1+1) V.heap.size (V.heap.size+1) (.slice ea l.length ec) (.slice na dn.length nc') (.slice nva (dX dn).length nvc) (.slice sva (dX dn).length svc) (.slice bva (dX dn).length bvc) W)
     (fun W' hg=>⟨⟨S1.gb hg (by simp),biJ hg (by simp)⟩,X1.kept hg (by simp),X2.kept hg (by simp)⟩)
     (by
      rintro m' pre x Wc hm' hmc' hpx hj;have hpl:pre.length<(dX dn).length:=by have:=hpx.length_le;simp at this;omega
      have hgx:(dX dn)[pre.length]? = some x:=by
       obtain⟨rest,hrest⟩:=hpx;rw[<-hrest];simp
      have hrow:Wc.ownsRow m 9 1 (.slice nva (dX dn).length nvc) (dX dn).length ((dX dn).map encStr):=nV (oZ HTR.out.n (wX hbV) (by simp)) hj.st.kp (fun y hy=>by have:=yX HTR.out.n hy;omega)
      obtain⟨nb,rfl,hcell⟩:∃ nb,nva=some ⟨nb,0,none⟩/\Wc.cell? ⟨nb,pre.length,none⟩=some (encStr x):=by
       rcases hrow.2 with⟨h1,h2⟩|⟨nb,cap,cur,h1,h2,h3,h4,h5,h6,h7⟩
       ·omega
       ·simp only[gZ] at h1
        refine⟨nb,h1.1,?_⟩;have h8:((dX dn).map encStr)[pre.length]? = some (encStr x):=by simp[hgx]
        rw[<-h7,vF (by omega)] at h8;simp[World.cell?,h3];simpa using h8
      have hbk:=efZ (w.heap.size+1+1+1+1) (V.heap.size+1) V.heap.size nb nvc pre.length (dX dn) x Wc hpl (by omega) hj.st.six.c5 hj.st.six.f5 hj.st.six.c2 hcell hj.n.cell hj.n.frozen hj.k.cell hj.k.frozen (by omega) (by omega) (by omega) (!decide ((dX dn).length / 2<pre.length+1)) (by simp);refine hbk.mono ?_;rintro e W' ⟨rfl,rfl⟩;obtain⟨q1,q2,q3⟩:=eoZ hj (!decide ((dX dn).length / 2<pre.length+1)) (by omega) (by omega) (by omega)
      have hK3:Kpt (fun y=>(y=g\/y=b)\/(V1.heap.size<=y/\y<m')) Wc (((Wc.setCell ⟨w.heap.size+1+1+1+1,5,none⟩ (.bool true)).setCell ⟨V.heap.size,0,none⟩ (.int .i64 ((pre.length:Int)+1))).setCell ⟨V.heap.size+1,0,none⟩ (.bool (!(!decide ((dX dn).length / 2<pre.length+1))))):=by
       refine⟨q3.size,fun y hy=>q3.block y ?_ ?_⟩
       ·rcases hy with(rfl|rfl)|hy <;> omega
       ·rcases hy with(rfl|rfl)|hy <;> omega
      by_cases hc:(dX dn).length / 2<pre.length+1
      ·right
       exact⟨by simp[hc],q1,hK3⟩
      ·left
       have:=q2 (by simp[hc]);exact⟨by simp[hc],by simpa using this,hK3⟩)
    have HV1:=qQ hV1;clear hV1 hst htr hsix X1 X2 S1 NF1;go_wp2_with fail;rw[HV1.out];refine((aA (n:=8)).1 kf).mono ?_;rintro e8 V2 ⟨⟨u,rfl⟩,m',hm',hres⟩
    have hK2:ClK V1 (w.heap.size+1+1+1+1) V.heap.size (V.heap.size+1) (.slice ea l.length ec) (.slice na dn.length nc') (.slice nva (dX dn).length nvc) (.slice sva (dX dn).length svc) (.slice bva (dX dn).length bvc) V2:=by
     rcases hres with h|⟨pre,h⟩
     ·exact h.st
     ·exact h
    clear kf hres;have hs2:=hK2.kp.size;have KV2:Hid (Keeps V V2 (fun k=>k=w.heap.size+1+1+1+1)):=⟨hK2.kp.os.trans hbV.os,hK2.kp.tape.trans hbV.tape,hK2.kp.output.trans hbV.output,by omega,fun k hk hn=>(hK2.kp.block k (by omega) (by omega)).trans (hbV.block k hk)⟩;have G72:Hid (W7.grownBy V2 (some (w.heap.size+1+1+1+1))):=⟨KV2.out.os.trans HST.out.os,KV2.out.tape.trans HST.out.tape,KV2.out.output.trans HST.out.output,by have:=KV2.out.size;omega,fun k hk hn=>(KV2.out.block k (by omega) (fun e=>hn (by rw[e]))).trans (HST.out.block k hk (fun e=>hn (by rw[e])))⟩;have HB2:=qQ (HB7.out.gb G72.out (fun y hy c=>c (by simpa using hy.symm)));have p2:V2.cell? ⟨w.heap.size+1+1+1,0,none⟩=some (.pointer (some ⟨w.heap.size+1+1,0,none⟩)):=(px7.out.kept G72.out (by simp)).cell;have kq:=edZ _ _ _ _ _ _ _ ⟨#[63]⟩ V2 HB2.out (by decide) (eoX HINV.out);go_wp2_with fail;refine kq.mono ?_;rintro e9 w9 ⟨rfl,hb9⟩;have hs9:=hb9.size;have hb94:Below w9.heap.size w9 ((w9.alloc (.cells #[.int .i64 0,.int .i64 0] 32)).alloc (.cells #[.int .i64 0,.int .i64 0] 32)):=bal (ba _ _) _;have hs94:=hb94.size;simp only[cP] at hs94;have S9:=hK2.six.below hb9;have S4:=S9.below hb94;have u5:=S9.c5;have uf5:=S9.f5;have hP9:w.heap.size+1+1+1+1<w9.heap.size:=S9.lt;obtain⟨V5,hV5⟩:∃ V5,((w9.alloc (.cells #[.int .i64 0,.int .i64 0] 32)).alloc (.cells #[.int .i64 0,.int .i64 0] 32)).setCell ⟨w.heap.size+1+1+1+1,5,none⟩ (.bool true)=V5:=⟨_,rfl⟩;have S5:SixB V5 (w.heap.size+1+1+1+1) (.slice ea l.length ec) (.slice na dn.length nc') (.slice nva (dX dn).length nvc) (.slice sva (dX dn).length svc) (.slice bva (dX dn).length bvc) (.bool true):=by rw[<-hV5];exact S4.put5 _
    have G45:((w9.alloc (.cells #[.int .i64 0,.int .i64 0] 32)).alloc (.cells #[.int .i64 0,.int .i64 0] 32)).grownBy V5 (some (w.heap.size+1+1+1+1)):=by rw[<-hV5];exact nQ (jX _ _) 5 _
    have hs45:=G45.size;simp only[cP] at hs45;have R7:SixB W7 w.heap.size nilv nilv nilv nilv nilv (.bool false):=HL.out.res.same (S7.out.block _ HL.out.res.lt (by omega));have R5:SixB V5 w.heap.size nilv nilv nilv nilv nilv (.bool false):=(((R7.gb G72.out (by simp;omega)).below hb9).below hb94).gb G45 (by simp;omega);obtain⟨V6,hV6⟩:∃ V6,(((((V5.setCell ⟨w.heap.size,0,none⟩ (.slice ea l.length ec)).setCell ⟨w.heap.size,1,none⟩ (.slice na dn.length nc')).setCell ⟨w.heap.size,2,none⟩ (.slice nva (dX dn).length nvc)).setCell ⟨w.heap.size,3,none⟩ (.slice sva (dX dn).length svc)).setCell ⟨w.heap.size,4,none⟩ (.slice bva (dX dn).length bvc)).setCell ⟨w.heap.size,5,none⟩ (.bool true)=V6:=⟨_,rfl⟩;have R6:SixB V6 w.heap.size (.slice ea l.length ec) (.slice na dn.length nc') (.slice nva (dX dn).length nvc) (.slice sva (dX dn).length svc) (.slice bva (dX dn).length bvc) (.bool true):=by rw[<-hV6];exact(((((R5.put0 _).put1 _).put2 _).put3 _).put4 _).put5 _
    have G56:V5.grownBy V6 (some w.heap.size):=by rw[<-hV6];exact nQ (nQ (nQ (nQ (nQ (nQ (jX _ _) 0 _) 1 _) 2 _) 3 _) 4 _) 5 _
    have HR6:=qQ R6
    have HK6:Hid (Keeps V V6 (fun k=>k=w.heap.size+1+1+1+1\/k=w.heap.size)):=by
     have k1:Keeps V V2 (fun k=>k=w.heap.size+1+1+1+1\/k=w.heap.size):=KV2.out.imp (fun k _ h=>.inl h);have k2:Keeps V ((w9.alloc (.cells #[.int .i64 0,.int .i64 0] 32)).alloc (.cells #[.int .i64 0,.int .i64 0] 32)) (fun k=>k=w.heap.size+1+1+1+1\/k=w.heap.size):=(k1.trans (xX hb9)).trans (xX hb94);exact aN (aN k2 G45 (fun k e=>.inl (.inl (by simpa using e.symm)))) G56 (fun k e=>.inl (.inr (by simpa using e.symm)))
    obtain⟨s0,s1,s2,s3,s4,s5⟩:=And.intro S5.c0 (And.intro S5.c1 (And.intro S5.c2 (And.intro S5.c3 (And.intro S5.c4 S5.c5))));obtain⟨r0,r1,r2,r3,r4,r5⟩:=And.intro R5.c0 (And.intro R5.c1 (And.intro R5.c2 (And.intro R5.c3 (And.intro R5.c4 R5.c5))));obtain⟨q0,q1,q2,q3,q4,q5⟩:=And.intro R5.f0 (And.intro R5.f1 (And.intro R5.f2 (And.intro R5.f3 (And.intro R5.f4 R5.f5))));have t5:=S4.c5;have tf5:=S4.f5;have HVV:=qQ hd;clear S9 kq hd hK2 G45 G56 R5 R6 R7 S4 S5;go_wp2_with fail;have HD6:V6.heap[DD]? = some (.deferred (some [])):=(HK6.out.block DD hDV (by omega)).trans HVV.out;refine⟨by simp,.inl ⟨_,_,rfl,run_takeDeferred HD6,?_⟩⟩;obtain⟨Z,hZ⟩:∃ Z,V6.putObj DD (.deferred none)=Z:=⟨_,rfl⟩;rw[hZ];have RZ:SixB Z w.heap.size (.slice ea l.length ec) (.slice na dn.length nc') (.slice nva (dX dn).length nvc) (.slice sva (dX dn).length svc) (.slice bva (dX dn).length bvc) (.bool true):=HR6.out.same (by rw[<-hZ];exact eL (by omega))
    have KZ:Keeps V Z (fun k=>k=w.heap.size+1+1+1+1\/k=w.heap.size\/k=DD):=by
     refine⟨?_,?_,?_,?_,fun k hk hn=>?_⟩
     ·rw[<-hZ];exact HK6.out.os
     ·rw[<-hZ];exact HK6.out.tape
     ·rw[<-hZ];exact HK6.out.output
     ·rw[<-hZ];simpa using HK6.out.size
     ·rw[<-hZ];exact(eL (by omega)).trans (HK6.out.block k hk (by omega))
    have hlow:=HL.out.low
    have LZ:Below w.heap.size w Z:=by
     refine⟨KZ.os.trans (HST.out.os.trans (S7.out.os.trans hlow.os)),KZ.tape.trans (HST.out.tape.trans (S7.out.tape.trans hlow.tape)),KZ.output.trans (HST.out.output.trans (S7.out.output.trans hlow.output)),by have:=KZ.size;omega,fun k hk=>?_⟩;exact(KZ.block k (by omega) (by omega)).trans ((HST.out.block k (by omega) (by omega)).trans ((S7.out.block k (by omega) (by omega)).trans (hlow.block k hk)))
    have eZ:Z.ownsRow w.heap.size 28 1 (.slice ea l.length ec) l.length (tD es):=by
     refine oA (base:=w.heap.size+5) (vD HROW.out fun g hg=>?_) (by omega);have h1:=yX HROW.out hg;exact(KZ.block g (by omega) (by omega)).trans ((HST.out.block g (by omega) (by omega)).trans (S7.out.block g h1.2 (by omega)))
    have nZ:Z.ownsRow w.heap.size 53 5 (.slice na dn.length nc') dn.length (enc dn):=by
     refine oA (vD HE7.out fun g hg=>?_) (by omega);have h1:=yX HE7.out hg;exact(KZ.block g (by omega) (by omega)).trans (HST.out.block g h1.2 (by omega))
    have hno:∀ v:Value,∀ z t n xs,V.ownsRow m t z v n xs->Z.ownsRow w.heap.size t z v n xs:=fun v z t n xs hw=>oA (nV hw KZ (fun g hg=>by have h4:=(yX hw hg).1;omega)) (by omega);have tn:=hno _ _ _ _ _ HTR.out.n;have ts:=hno _ _ _ _ _ HTR.out.s;have tb:=hno _ _ _ _ _ HTR.out.b;rw[uU] at ts tb;refine⟨.agg #[(.slice ea l.length ec),(.slice na dn.length nc'),(.slice nva (dX dn).length nvc),(.slice sva (dX dn).length svc),(.slice bva (dX dn).length bvc),.bool true],?_,?_⟩
    ·simp[results,results31,go_sem,RZ.c0,RZ.c1,RZ.c2,RZ.c3,RZ.c4,RZ.c5]
    ·refine⟨_,_,_,_,_,rfl,LZ,?_,?_,?_,?_,?_⟩
     ·rw[hes.out];exact eZ
     ·rw[HDN.out];exact nZ
     ·rw[HDN.out];exact tn
     ·rw[HDN.out];exact ts
     ·rw[HDN.out];exact tb
theorem sS (h:w.ownsRow base t sz (.slice a n c) n xs)(hj:xs[j]? = some u) :
  ∃ g,a=some ⟨g,0,none⟩/\base<=g/\g<w.heap.size/\w.cell? ⟨g,j,none⟩=some u:=by
 rcases h.2 with⟨h1,h0⟩|⟨g,cap,cur,h1,h2,h3,h4,h5,h6,h7⟩
 ·have:=h.1
  rw[h0] at this;obtain rfl:xs=[]:=aoZ (by omega);simp at hj
 ·simp only[gZ] at h1
  refine⟨g,h1.1,h2,(yJ.1 h3).1,?_⟩;have hlt:j<xs.length:=(cQ.1 hj).1;rw[<-h7,vF (by rw[<-h.1];exact hlt)] at hj;simp[World.cell?,h3];simpa using hj
theorem alQ {l:List En}{x:En}(h:l[i]? = some x):(enc l)[i*5]? = some (.int .i64 x.1)/\(enc l)[i*5+1]? = some (.string x.2.1)/\(enc l)[i*5+2]? = some (.int .i64 x.2.2.1)/\(enc l)[i*5+3]? = some (.int .i64 x.2.2.2.1)/\(enc l)[i*5+4]? = some (.int .i64 x.2.2.2.2):=by
 induction l generalizing i with
 | nil=>simp at h
 | cons y l ih =>
  cases i with
  | zero=>simp at h;subst h;simp[enc,xL]
  | succ i =>
   simp only[List.getElem?_cons_succ] at h;have:=ih h
   have e:∀ k,(enc (y::l))[(i+1)*5+k]? = (enc l)[i*5+k]?:=fun k=>by
    have:enc (y::l)=xL y++enc l:=by simp[enc]
    rw[this,jF (by simp[xL];omega)];simp only[xL,pJ,yG];congr 1;omega
   exact⟨by rw[<-this.1];exact e 0,by rw[<-this.2.1];exact e 1,by rw[<-this.2.2.1];exact e 2,by rw[<-this.2.2.2.1];exact e 3,by rw[<-this.2.2.2.2];exact e 4⟩
theorem fqZ {dn:List En}(h:w.ownsRow base 53 5 v dn.length (enc dn))(hl:dn.length<=9223372036854775807)(hn:∀ x∈dn,x.2.1.size<=9223372036854775807):kJ w w.heap.size v dn:=by
 obtain⟨a,c,rfl⟩:=wZ h;refine⟨a,c,rfl,?_,hl,hn,fun hne=>?_⟩
 ·rcases h.2 with⟨h1,h0⟩|⟨g,cap,cur,h1,h2,h3,h4,_⟩
  ·omega
  ·simp only[gZ] at h1;omega
 ·obtain⟨x0,l0,rfl⟩:∃ x l,dn=x::l:=by cases dn;exact absurd rfl hne;exact⟨_,_,rfl⟩
  obtain⟨g,rfl,_,hlt,_⟩:=sS h (alQ (i:=0) (x:=x0) rfl).1;refine⟨g,0,rfl,hlt,fun i x hi=>?_⟩;have hg:=alQ hi
  have cell:∀ {j u},(enc (x0::l0))[j]? = some u->w.cell? ⟨g,j,none⟩=some u:=fun hj=>by
   obtain⟨g',e,_,_,hc⟩:=sS h hj;simp only[zX,bG] at e;rw[e.1];exact hc
  simp only[xZ];exact⟨cell hg.1,cell hg.2.1,cell hg.2.2.1,cell hg.2.2.2.1,cell hg.2.2.2.2⟩
end K.P
namespace K.P
open Go.RowKit K.Ds
abbrev pN:ByteArray:=⟨#[112]⟩
theorem fqJ (e:En):mX [] [e]=([eX [] (nrm e)],sY [] e):=pB [] [] e
theorem frQ (w:World)(e:En)(he:e.2.1.size<=9223372036854775807):kJ (w.alloc (.cells #[.int .i64 e.1,.string e.2.1,.int .i64 e.2.2.1,.int .i64 e.2.2.2.1,.int .i64 e.2.2.2.2] 53)) (w.heap.size+1) (.slice (some ⟨w.heap.size,0,none⟩) 1 1) [e]:=by
 have hV:=FivB.new w (.int .i64 e.1) (.string e.2.1) (.int .i64 e.2.2.1) (.int .i64 e.2.2.2.1) (.int .i64 e.2.2.2.2) 53 _ rfl;refine⟨_,1,rfl,by simp,by simp,fun x hx=>?_,fun _=>⟨w.heap.size,0,rfl,by omega,fun i x hi=>?_⟩⟩
 ·simp at hx;subst hx;exact he
 ·have h0:i<1:=by have:=(cQ.1 hi).1;simpa using this
  obtain rfl:i=0:=by omega
  simp at hi;subst hi;exact⟨hV.c0,hV.c1,hV.c2,hV.c3,hV.c4⟩
theorem frX (bu bd r:Int)(w:World)(hr:eX [] (nrm (1,pN,0,bu,bd))=r) :
  Calls prog 14 #[rv bu bd] w fun x w'=>∃ v,x=.returned (.tuple #[v,.bool (decide (r=0))])/\kJ w' w'.heap.size v [(1,pN,0,bu,bd)]/\Below w.heap.size w w':=by
 have hE:kJ ((w.alloc (.cells #[.int .i64 bu,.int .i64 bd] 32)).alloc (.cells #[.int .i64 1,.string pN,.int .i64 0,.int .i64 bu,.int .i64 bd] 53)) (w.heap.size+1+1) (.slice (some ⟨w.heap.size+1,0,none⟩) 1 1) [(1,pN,0,bu,bd)]:=by
  have h:=frQ (w.alloc (.cells #[.int .i64 bu,.int .i64 bd] 32)) (1,pN,0,bu,bd) (show pN.size<=9223372036854775807 by decide);have hz:(w.alloc (.cells #[.int .i64 bu,.int .i64 bd] 32)).heap.size=w.heap.size+1:=by simp
  rw[hz] at h;exact h
 have hW:Below w.heap.size w ((w.alloc (.cells #[.int .i64 bu,.int .i64 bd] 32)).alloc (.cells #[.int .i64 1,.string pN,.int .i64 0,.int .i64 bu,.int .i64 bd] 53)):=bal (ba _ _) _;have kb:=b5X _ _ _ _ (by simp) hE (by simp) (fun e he=>by simp at he;subst he;exact(show -9223372036854775808<=(0:Int)/\(0:Int)<=9223372036854775807 by decide));have HE:=qQ hE;clear hE;go_enter func14,ntmps14;go_wp2_with fail;refine kb.mono ?_;rintro e w1 ⟨er,en,nv,sv,bv,rfl,hb1,r0,r1,r2,r3,r4⟩;rw[fqJ] at r0;rw[hr] at r0;obtain⟨a1,c1,rfl⟩:=wZ r1;obtain⟨a2,c2,rfl⟩:=wZ r2;obtain⟨a3,c3,rfl⟩:=wZ r3;obtain⟨a4,c4,rfl⟩:=wZ r4;simp only[pJ,yG,xZ] at r0;obtain⟨a0,c0,rfl⟩:=wZ r0;obtain⟨g,rfl,_,hg,hc⟩:=sS r0 (j:=0) (u:=.int .i64 r) rfl;have hc2:∀ o,(w1.alloc o).cell? ⟨g,0,none⟩=some (.int .i64 r):=fun o=>((ba w1 o).cell (p:=⟨g,0,none⟩) hg).trans hc;have G1:=bt hW hb1;have HE2:∀ o,kJ (w1.alloc o) (w1.alloc o).heap.size (.slice (some ⟨w.heap.size+1,0,none⟩) 1 1) [(1,pN,0,bu,bd)]:=fun o=>((HE.out.at (by simp) hb1).at (by have:=hb1.size;simp at this;omega) (ba _ o)).mono (by have:=hb1.size;simp at this ⊢;omega);have HF:=qQ HE2;clear kb HE HE2 r0 r1 r2 r3 r4 hc;by_cases h0:r=0
 ·subst h0
  go_wp2;go_quiet (fail);go_wp2;go_ret2;exact⟨_,by first|rfl|simp,(HF.out _).at (vQ _) (below_drewN (aQ _ _) _),below_drewN (bal G1 _) _⟩
 ·have h1:(r == 0)=false:=by simpa using h0
  have h2:decide (r=0)=false:=by simpa using h0
  go_wp2;go_quiet (fail);go_wp2;go_ret2;exact⟨_,by first|rfl|simp[h2],(HF.out _).at (vQ _) (below_drewN (aQ _ _) _),below_drewN (bal G1 _) _⟩
theorem frZ (w:World)(t ty e:TypeId)(i:TypeInfo)(size:Nat)(ht:prog.underlying t=some (.slice e))(hi:prog.info? e=some i)(hz1:i.size=size)(base a:Option Addr)(sLen sCap c:Nat)(hle:sLen<=sCap) :
  (Builtin.append_ #[t,t] ty #[.slice base sLen sCap,.slice a 0 c]).run prog w=.ok (.slice base sLen sCap) w:=by
 refine run_append_nothing (P:=prog) w t t ty e i ht hi base sLen sCap hle (.slice a 0 c) ?_;rw[hz1]
 have key:∀ W:World,(Builtin.firstCells size 0 (.slice a 0 c)).run prog W=.ok ([]:List Value).toArray W:=by
  intro W;cases a with
  | none=>exact run_firstCells_none W size 0 0 c
  | some ad=>exact run_firstCells_some W size 0 ad 0 c [] (by simp) (by simp)
 exact⟨.inl ⟨e,ht⟩,fun w'=>by simp[Builtin.lenOf],key w,key w.drew,by simp,by simp⟩
theorem ajZ (h:w.ownsRow base e size (.slice a n c) n xs):n<=c:=by
 rcases h.2 with⟨h1,h2⟩|⟨g,cap,cur,h1,_,_,h2,_⟩
 ·simp only[gZ] at h1;omega
 ·simp only[gZ] at h1;omega
theorem aP {a:Act}(w:World)(hgd:o.guard=none)(s x:Operand)(t:TypeId)(ho:o.op=.call { callee:=.builtin .append,args:=#[s,x],argTypes:=#[t,t] })
  (base:Nat) (e:TypeId) (i:TypeInfo) (z:Value) (size bytes:Nat) (ht:prog.underlying t=some (.slice e)) (hi:prog.info? e=some i) (hz:i.zero=some z) (hsize:i.size=size) (hby:i.bytes=bytes) (hzs:z.cells.size=size) (hsz:0<size)
  (sa:Option Addr) (n sc:Nat) (xs:List Value) (hs:a.eval s=.slice sa n sc) (hown:w.ownsRow base e size (.slice sa n sc) n xs)
  (ua:Option Addr) (m uc:Nat) (news:List Value) (hx:a.eval x=.slice ua m uc) (hl:news.length=m*size) (hsrc:m≠0->∃ ad,ua=some ad/\∀ j u,news[j]? = some u->w.cell? (ad.add j)=some u) (h1:∀ u∈news,u.oneCell' = true)
  (h63:n+m<=maxLen) (hbytes:(n+m)*bytes<=140737488355328) (hbase:base<=w.heap.size) (n':Nat) (hn':n+m=n')
  (h:∀ a' c' w',w'.ownsRow base e size (.slice a' n' c') n' (xs++news)->w.grownBy w' (Value.slice sa n sc).ownBlock->((Value.slice a' n' c').ownBlock=(Value.slice sa n sc).ownBlock\/(Value.slice a' n' c').ownBlock=some w.heap.size)->K (a.put o.dst (.slice a' n' c')) w') :
  if Region.wanted o (yielded ops a.tmps)=true then Oper.wp prog o a w K Q else E:=by
 subst hn';have hw:Region.wanted o (yielded ops a.tmps)=true:=by simp[Region.wanted,hgd]
 rw[zQ hw]
 have key:∃ a' c' w',(Builtin.append_ #[t,t] o.type #[.slice sa n sc,.slice ua m uc]).run prog w=.ok (.slice a' (n+m) c') w'/\w'.ownsRow base e size (.slice a' (n+m) c') (n+m) (xs++news)/\w.grownBy w' (Value.slice sa n sc).ownBlock/\((Value.slice a' (n+m) c').ownBlock=(Value.slice sa n sc).ownBlock\/(Value.slice a' (n+m) c').ownBlock=some w.heap.size):=by
  by_cases hm:m=0
  ·subst hm
   obtain rfl:news=[]:=aoZ (by omega);exact⟨sa,sc,w,frZ w t _ e i size ht hi hsize sa ua n sc uc (ajZ hown),by simpa using hown,gM _ _,.inl rfl⟩
  ·obtain⟨ad,rfl,hcell⟩:=hsrc hm
   obtain⟨v',w',h1,h2,h3,_,h5⟩:=run_append_own_at (P:=prog) w base t o.type e i z size bytes ht hi hz hsize hby hzs hsz (.slice sa n sc) n xs hown ad m uc news hl hcell h1 h63 hbytes hbase;obtain⟨a',c',rfl⟩:=wZ h2;exact⟨a',c',w',h1,h2,h3,h5⟩
 obtain⟨a',c',w',hr,h2,h3,h4⟩:=key;unfold Oper.wp execOp;simp only[ho,resolve,invoke,builtin,vT,mP,bK,List.map_toArray,xV,nP,hs,hx,hr];exact h a' c' w' h2 h3 h4
theorem b5Z (w:World)(t:TypeId)(sz base:Nat)(hb:base<=w.heap.size):(w.alloc (.cells #[] t)).ownsRow base t sz (.slice (some ⟨w.heap.size,0,none⟩) 0 0) 0 [] :=
 ⟨by simp,.inr ⟨w.heap.size,0,#[],rfl,hb,dP w _,vQ _,by decide,by simp,by simp⟩⟩
theorem frJ {l:List En}(h:kJ w B (.slice a n c) l):n≠0->∃ ad,a=some ad/\∀ j u,(enc l)[j]? = some u->w.cell? (ad.add j)=some u:=by
 intro hn;obtain⟨a',c',hv,_,_,_,hx⟩:=h;simp only[gZ] at hv;obtain⟨rfl,rfl,rfl⟩:=hv;obtain⟨b,o,rfl,_,hcell⟩:=hx (fun e=>by subst e;exact hn rfl);refine⟨_,rfl,fun j u hj=>?_⟩;rw[iU];have hlt:j<(enc l).length:=(cQ.1 hj).1;rw[uN] at hlt;have hi:j / 5<l.length:=by omega
 obtain⟨x,hx2⟩:=cX hi;have hg:=alQ hx2;obtain⟨k0,k1,k2,k3,k4⟩:=hcell _ x hx2;have hj5:j=j / 5*5+j % 5:=by omega
 have hm:j % 5<5:=Nat.mod_lt _ (by decide);generalize j / 5=q at *
 generalize j % 5=r at *
 subst hj5;rcases (by omega:r=0\/r=1\/r=2\/r=3\/r=4) with rfl|rfl|rfl|rfl|rfl
 ·have:=hg.1;rw[wA] at hj;rw[this] at hj;cases hj;simpa using k0
 ·rw[hg.2.1] at hj;cases hj;rw[<-vV];exact k1
 ·rw[hg.2.2.1] at hj;cases hj;rw[<-vV];exact k2
 ·rw[hg.2.2.2.1] at hj;cases hj;rw[<-vV];exact k3
 ·rw[hg.2.2.2.2] at hj;cases hj;rw[<-vV];exact k4
