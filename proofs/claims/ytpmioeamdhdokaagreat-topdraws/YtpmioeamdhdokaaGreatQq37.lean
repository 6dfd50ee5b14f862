import Derived.Test.YtpmioeamdhdokaaGreatQq36
import Derived.Great.Walk
import Derived.BigQuiet
import Derived.Deep.MidRow
import Derived.Deep.WholeRow
import Derived.Deep.Cut
import Derived.Great.BuildSlice
namespace Go.Proofs.YtpmioeamdhdokaaGreat
open Go.RowKit Go.Proofs.YtpmioeamdhdokaaGreat.Ds
open Go.Proofs.YtpmioeamdhdokaaGreat.K (Cl)
open Go.Proofs.YtpmioeamdhdokaaGreat.K.P (HSt Keeps keeps_below keeps_set keeps_refl HouM HouK DskM HdoP doesT stepH Ev Sn quV priT TwoB W64 liesT row_keeps row_lt row_base row_gb row_same enc infocloneI_any)
theorem wpList_build1 {P:Program} {ops:Array Oper} {rest:List Oper} {o:Oper} {a:Act} {w:World} {Q:Exit→Act→World→Prop} (hg:o.guard=none) (t e:TypeId) (x:Operand) (ho:o.op=.buildSlice t 1 #[(0,x)])
  (N:Nat) (hN:w.heap.size=N) (dst:Option Tmp) (hdst:o.dst=dst) (hu:P.underlying t=some (.slice e)) (v:Value) (hv:a.eval x=v) (cells:Array Value) (hf:P.builtSlice e 1 [(0,v)]=some cells)
  (h:wpList P ops Q rest (a.put dst (.slice (some ⟨N,0,none⟩) 1 1)) (w.alloc (.cells cells e))):wpList P ops Q (o :: rest) a w :=
 Great.wpList_buildSliceTo hg t e 1 _ ho N hN dst hdst hu cells (by subst hv; simpa using hf) h
theorem blt42 (er us lu ld:Int) (ta ea:Option Addr) (tn tc en ec:Nat):Tryz.prog.builtSlice 42 1 [(0,.agg #[.int .i64 er,.slice ta tn tc,.int .i64 us,.int .i64 lu,.int .i64 ld,.slice ea en ec])]=some #[.int .i64 er,.slice ta tn tc,.int .i64 us,.int .i64 lu,.int .i64 ld,.slice ea en ec]:=by kernel_rfl
theorem infos54:(Tryz.prog.info? 54).map (fun i=>i.size)=some 12:=by kernel_rfl
theorem infos56:(Tryz.prog.info? 56).map (fun i=>i.size)=some 18:=by kernel_rfl
theorem one18 {act n bu bd kk kl kh u d lo hi word:Int} {nm pn kc:ByteArray} {ka kb xa:Option Addr} {kn kd km kp xl xc:Nat}:(#[.int .i64 act,.int .i64 n,.string nm,.int .i64 bu,.int .i64 bd,.string pn,.int .i64 kk,.string kc,.int .i64 kl,.int .i64 kh,.slice ka kn kd,.slice kb km kp,.int .i64 u,.int .i64 d,.int .i64 lo,.int .i64 hi,.slice xa xl xc,.int .i64 word]:Array Value).all (·.oneCell')=true:=by
 refine all_oneCell_toArray (cs:=[_,_,_,_,_,_,_,_,_,_,_,_,_,_,_,_,_,_]) (fun v hv=>?_)
 simp only [List.mem_cons,List.not_mem_nil,or_false] at hv
 rcases hv with rfl | rfl | rfl | rfl | rfl | rfl | rfl | rfl | rfl | rfl | rfl | rfl | rfl | rfl | rfl | rfl | rfl | rfl <;> rfl
set_option maxHeartbeats 8000000 in
set_option maxRecDepth 100000 in
theorem house_any (B:Nat) (cv rv sv:Value) (l:List K.Ds.Col) (rs:List K.Rw) (wa:Option Addr) (wc:Nat) (words:List Int) (xs:List Stp) (w:World) (hB:B≤w.heap.size) (hp:K.Cols w B cv l) (hq:K.Rws w B rv rs)
  (hw0:wa=none→words.length=0∧wc=0) (hw1:∀ ad,wa=some ad→∀ j u,words[j]? = some u→ad.block < w.heap.size∧w.cell? (ad.add j)=some (.int .i64 u)) (h64:W64 words) (hwl:words.length≤1000000) (hs:Stps w B sv xs) (hxl:xs.length≤1000000000000) :
  Calls Tryz.prog 7 #[.agg #[cv,rv],.slice wa words.length wc,sv] w (HplP l (K.rr rs) words xs w):=by
 have HP:Hid (K.Cols w B cv l):=hp
 have HQ:Hid (K.Rws w B rv rs):=hq
 have HS:Hid (Stps w B sv xs):=hs
 have H64:Hid (W64 words):=h64
 obtain ⟨i2,hi2,hz20,hz21,hz22⟩:=info_parts infow2
 obtain ⟨i4,hi4,hz40,hz41,hz42⟩:=info_parts infos42
 obtain ⟨ca,cc,rfl,_⟩:=hp.slice
 obtain ⟨ra,rc,rfl,_⟩:=hq.slice
 obtain ⟨sa,sc,rfl,hsc,hsl,_⟩:=hs
 have A:Hid (∀ ad,wa=some ad→∀ j u,(words.map (Value.int .i64))[j]? = some u→∀ o1 o2,((w.alloc o1).alloc o2).cell? (ad.add j)=some u):=by
  intro ad ha j u hj o1 o2
  rw [List.getElem?_map] at hj
  cases e:words[j]? with
  | none=>rw [e] at hj; cases hj
  | some x =>
   rw [e] at hj
   cases hj
   obtain ⟨h1,h2⟩:=hw1 ad ha j x e
   have hb:(ad.add j).block=ad.block:=by unfold Addr.add; split <;> rfl
   rw [World.cell?_alloc_lt _ _ _ (by simp; omega),World.cell?_alloc_lt _ _ _ (by omega)]
   exact h2
 have HMD:Hid (((w.alloc (.cells #[.slice ca l.length cc,.slice ra rs.length rc] 25)).alloc (.cells #[] 2)).ownsRow (w.heap.size + 1) 2 1 (.slice (some ⟨w.heap.size + 1,0,none⟩) 0 0) 0 []):=by
  have:=World.ownsRow_made (base:=w.heap.size + 1) (e:=2) (size:=1) (w.alloc (.cells #[.slice ca l.length cc,.slice ra rs.length rc] 25)) #[] 0 (by simp) (Nat.zero_le _) (by simp)
  simp at this
  exact this
 have HW0:Hid (wa=none→words.length=0∧wc=0):=hw0
 clear hp hq hw1 h64 hw0
 go_enter Tryz.func7,Tryz.ntmps7
 go_wp2_with (at_builtin; refine wpList_append_any rfl _ _ 26 rfl (w.heap.size + 1) 2 i2 (.int .i64 0) 1 8 Tryz.underlying26 hi2 hz20 hz21 hz22 rfl (by decide) _ _ _ rfl HMD.out wa words.length wc (words.map (.int .i64)) rfl ?qc0 ?qc1 ?qc2 ?qc3 ?qc4 ?qc5 ?qc6 ?qc7 ?_)
 case qc0=>exact HW0.out
 case qc1=>simp
 case qc2=>intro ad ha j u hj; exact A.out ad ha j u hj _ _
 case qc3=>intro u hu; simp at hu; obtain ⟨z,_,rfl⟩:=hu; rfl
 case qc4=>rw [Nat.zero_add]; simp [maxLen]; omega
 case qc5=>rw [Nat.zero_add]; omega
 case qc6=>simp
 case qc7=>show Value.slice (some ⟨w.heap.size + 1,0,none⟩) 0 0≠_; simp
 intro v' w1 hown hgrow hnil
 have h9:=dsk_new (words:=words) (by simpa using hown) hnil
 obtain ⟨a,c,bw,rfl,rfl,hb1,hb2,hds⟩:=h9
 have hb0:Below (w.heap.size + 1) (w.alloc (.cells #[.slice ca l.length cc,.slice ra rs.length rc] 25)) w1:=by
  refine ⟨hgrow.os,hgrow.tape,hgrow.output,Nat.le_trans (by simp) hgrow.size,fun k hk=>(hgrow.block k (by simp; omega) (by simp [Value.ownBlock]; omega)).trans (Below.heap_alloc _ _ _ (by simp; omega))⟩
 obtain ⟨W0,hW0⟩:∃ W0,w.alloc (.cells #[.slice ca l.length cc,.slice ra rs.length rc] 25)=W0:=⟨_,rfl⟩
 have hWs:W0.heap.size=w.heap.size + 1:=by rw [← hW0]; simp
 have HT0:Hid (TwoB W0 w.heap.size (.slice ca l.length cc) (.slice ra rs.length rc)):=hW0▸TwoB.new _ _ _ 25 _ rfl
 have HBW:Hid (Below w.heap.size w W0):=hW0▸ba _ _
 have hI0:HuI W0 (w1.alloc (.cells #[.slice (some ⟨bw,0,none⟩) words.length c,.int .i64 (-1),.bool false] 88)) (w.heap.size + 1) w1.heap.size bw (some ⟨bw,0,none⟩) c l (K.rr rs) (.pointer none) (.slice none 0 0) ⟨words,-1,false,false,[]⟩ [] (fun _=>False) (fun _=>False):=by
  rw [hW0] at hb0
  have hz:=hb0.size
  refine ⟨hb0.alloc (by omega) _,hds,⟨by omega,hb1,by simp; omega,by omega⟩,H64.out,⟨by simp,by simp⟩,fun k h=>h.elim,fun k h=>h.elim,fun _=>rfl,(fun h=>by cases h),[],rfl,⟨rfl,.inl ⟨rfl,rfl⟩⟩,(fun g hg=>by cases hg),fun i x cs hx=>by simp at hx⟩
 have HI0:Hid (HuI W0 (w1.alloc (.cells #[.slice (some ⟨bw,0,none⟩) words.length c,.int .i64 (-1),.bool false] 88)) (w.heap.size + 1) w1.heap.size bw (some ⟨bw,0,none⟩) c l (K.rr rs) (.pointer none) (.slice none 0 0) ⟨words,-1,false,false,[]⟩ [] (fun _=>False) (fun _=>False)):=hI0
 clear hI0 hds hb0 hown hgrow hnil HMD HW0 A hW0
 go_wp2
 go_loopw [22,10,11] (fun iv hv ov wr=>∃ (i:Nat) (M G:Nat→Prop),iv=.int .i64 (i:Int)∧i≤xs.length∧Hid (HuI W0 wr (w.heap.size + 1) w1.heap.size bw (some ⟨bw,0,none⟩) c l (K.rr rs) hv ov (runP l (K.rr rs) ⟨words,-1,false,false,[]⟩ (xs.take i)).1 (runP l (K.rr rs) ⟨words,-1,false,false,[]⟩ (xs.take i)).2 M G)) (fun iv _ _ _=>xs.length - (intOf iv).toNat)
 case atStart=>exact ⟨0,fun _=>False,fun _=>False,rfl,Nat.zero_le _,HI0⟩
 case round =>
  obtain ⟨i,M,G,rfl,hi,HI⟩:=hrel
  by_cases h1:i < xs.length
  ·obtain ⟨x,hx⟩:∃ x,xs[i]? = some x:=⟨_,List.getElem?_eq_getElem h1⟩
   have hbe:Below B w wr:=by
    have q1:=HBW.out
    have q2:=HI.out.be
    exact ⟨q2.os.trans q1.os,q2.tape.trans q1.tape,q2.output.trans q1.output,Nat.le_trans q1.size q2.size,fun k hk=>(q2.block k (by omega)).trans (q1.block k (by omega))⟩
   have HBE:Hid (Below B w wr):=hbe
   obtain ⟨sa',sc',hsv,_,_,hst⟩:=HS.out
   cases hsv
   obtain ⟨b,o,rfl,hbB,hst⟩:=hst (fun e=>by rw [e] at h1; simp at h1)
   obtain ⟨v0,v1,v2,v3,v4,v5,xa,xc,nb,hc,hQm,hIn,hnl,hlo,hhi,hn,hwd,hnm,hpn⟩:=(hst i x hx).keep hbe hbB
   have hx18:=hc
   have HCC:Hid (∀ i_1 v,([.int .i64 x.act,.int .i64 x.n,.string x.nm,.int .i64 x.bu,.int .i64 x.bd,.string x.pn,v0,v1,v2,v3,v4,v5,.int .i64 x.u,.int .i64 x.d,.int .i64 x.lo,.int .i64 x.hi,.slice xa x.bits.length xc,.int .i64 x.word]:List Value)[i_1]? = some v→wr.cell? ⟨b,o + i * 18 + i_1,none⟩=some v):=hc
   have HQm:Hid (K.Qm wr B x.q v0 v1 v2 v3 v4 v5):=hQm
   have HIn:Hid (Ints wr B nb (.slice xa x.bits.length xc) x.bits):=hIn
   obtain ⟨kk,kc,kl,kh,ka,kn,kd,kb,km,kp,rfl,rfl,rfl,rfl,rfl,rfl⟩:=hQm.shape
   have HX:Hid ((xa=none→xc=0)∧I64 x.lo∧I64 x.hi∧I64 x.n∧I64 x.word∧x.nm.size≤9223372036854775807∧x.pn.size≤9223372036854775807):=⟨hnl,hlo,hhi,hn,hwd,hnm,hpn⟩
   have HR:Hid (wr.rangeAt b (o + i * 18) [.int .i64 x.act,.int .i64 x.n,.string x.nm,.int .i64 x.bu,.int .i64 x.bd,.string x.pn,.int .i64 kk,.string kc,.int .i64 kl,.int .i64 kh,.slice ka kn kd,.slice kb km kp,.int .i64 x.u,.int .i64 x.d,.int .i64 x.lo,.int .i64 x.hi,.slice xa x.bits.length xc,.int .i64 x.word]):=hc
   clear hc hQm hIn hnl hlo hhi hn hwd hnm hpn hst hbe hx18
   have hii:(i:Int) < (xs.length:Int):=by omega
   obtain ⟨S,os,hSo⟩:∃ S os,runP l (K.rr rs) ⟨words,-1,false,false,[]⟩ (xs.take i)=(S,os):=⟨_,_,rfl⟩
   have hosl:os.length=i:=by
    have:=runP_len l (K.rr rs) (xs.take i) ⟨words,-1,false,false,[]⟩
    rw [hSo,List.length_take] at this
    simp only at this
    omega
   have HOL:Hid (os.length=i):=hosl
   have HI1:Hid (HuI W0 wr (w.heap.size + 1) w1.heap.size bw (some ⟨bw,0,none⟩) c l (K.rr rs) u10 u11 S os M G):=by
    have:=HI.out
    rw [hSo] at this
    exact this
   have NXT:Hid (∀ s' x',stepP l (K.rr rs) S x=(s',x')→runP l (K.rr rs) ⟨words,-1,false,false,[]⟩ (xs.take (i + 1))=(s',os ++ [x'])):=fun s' x' he=>by
    rw [List.take_add_one,hx]
    simp only [Option.toList_some]
    rw [runP_snoc,hSo]
    simp only
    rw [he]
   obtain ⟨w2,hw2⟩:∃ w2,(wr.alloc (.cells #[.int .i64 x.act,.int .i64 x.n,.string x.nm,.int .i64 x.bu,.int .i64 x.bd,.string x.pn,.int .i64 kk,.string kc,.int .i64 kl,.int .i64 kh,.slice ka kn kd,.slice kb km kp,.int .i64 x.u,.int .i64 x.d,.int .i64 x.lo,.int .i64 x.hi,.slice xa x.bits.length xc,.int .i64 x.word] 56)).alloc (.cells #[.int .i64 0,.slice none 0 0,.int .i64 0,.int .i64 0,.int .i64 0,.slice none 0 0] 42)=w2:=⟨_,rfl⟩
   have hbw2:Below wr.heap.size wr w2:=hw2▸bal (ba _ _) _
   have HW2:Hid (Below wr.heap.size wr w2):=hbw2
   have hs2:wr.heap.size + 2≤w2.heap.size:=by rw [← hw2]; simp
   have HBS:Hid (Bx w2 wr.heap.size [.int .i64 x.act,.int .i64 x.n,.string x.nm,.int .i64 x.bu,.int .i64 x.bd,.string x.pn,.int .i64 kk,.string kc,.int .i64 kl,.int .i64 kh,.slice ka kn kd,.slice kb km kp,.int .i64 x.u,.int .i64 x.d,.int .i64 x.lo,.int .i64 x.hi,.slice xa x.bits.length xc,.int .i64 x.word]):=hw2▸(Bx.new wr [.int .i64 x.act,.int .i64 x.n,.string x.nm,.int .i64 x.bu,.int .i64 x.bd,.string x.pn,.int .i64 kk,.string kc,.int .i64 kl,.int .i64 kh,.slice ka kn kd,.slice kb km kp,.int .i64 x.u,.int .i64 x.d,.int .i64 x.lo,.int .i64 x.hi,.slice xa x.bits.length xc,.int .i64 x.word] 56 rfl).at (ba _ _)
   have HBX:Hid (Bx w2 (wr.heap.size + 1) [.int .i64 0,.slice none 0 0,.int .i64 0,.int .i64 0,.int .i64 0,.slice none 0 0]):=hw2▸Bx.new _ [.int .i64 0,.slice none 0 0,.int .i64 0,.int .i64 0,.int .i64 0,.slice none 0 0] 42 (by simp)
   have HI2:Hid (HuI W0 w2 (w.heap.size + 1) w1.heap.size bw (some ⟨bw,0,none⟩) c l (K.rr rs) u10 u11 S os M G):=HI1.out.at hbw2
   have hNE:∀ k,(M k∨k=w1.heap.size∨k=bw)→k < wr.heap.size:=fun k hk=>by
    rcases hk with m | m | m
    ·exact (HI1.out.mm k m).2.1
    ·have:=HI1.out.ds.c0.lt; omega
    ·have:=HI1.out.bs.2.2.1; omega
   have HNE:Hid (∀ k,(M k∨k=w1.heap.size∨k=bw)→k < wr.heap.size):=hNE
   have a0:=(HBS.out 0 _ rfl).c
   have a1:=(HBS.out 1 _ rfl).c
   clear hSo hx HI hbw2 hNE hosl
   go_upto_region 6 with fail
   refine wp_region_lit ?_
   go_step
   go_step
   go_step
   refine wpList_load_mid rfl 56 _ rfl b (o + i * 18) rfl [.int .i64 x.act,.int .i64 x.n,.string x.nm,.int .i64 x.bu,.int .i64 x.bd,.string x.pn,.int .i64 kk,.string kc,.int .i64 kl,.int .i64 kh,.slice ka kn kd,.slice kb km kp,.int .i64 x.u,.int .i64 x.d,.int .i64 x.lo,.int .i64 x.hi,.slice xa x.bits.length xc,.int .i64 x.word] _ HR.out Tryz.underlying56 rfl infos56 ?_
   go_step
   go_step
   go_step
   refine wpList_store_rowTo rfl 56 _ _ rfl rfl wr.heap.size #[.int .i64 x.act,.int .i64 x.n,.string x.nm,.int .i64 x.bu,.int .i64 x.bd,.string x.pn,.int .i64 kk,.string kc,.int .i64 kl,.int .i64 kh,.slice ka kn kd,.slice kb km kp,.int .i64 x.u,.int .i64 x.d,.int .i64 x.lo,.int .i64 x.hi,.slice xa x.bits.length xc,.int .i64 x.word] rfl rfl 56 _ (Go.heap_alloc_last _ _) infos56 rfl one18 ?_
   rw [World.setRow_alloc_new]
   go_upto_region 8 with fail
   clear hw2
   by_cases h6:x.act=1
   ·as_aux_lemma =>
    obtain ⟨er,her⟩:∃ er,K.Ds.wroE l (K.rr rs)=er:=⟨_,rfl⟩
    have HER:Hid (K.Ds.wroE l (K.rr rs)=er):=her
    have hbe2:Below B w w2:=HBE.out.trans (HW2.out.mono (Nat.le_trans hB HBE.out.size))
    have kO:=K.P.open_any B w1.heap.size bw _ _ l rs (some ⟨bw,0,none⟩) c S.disk S.left w2 (Nat.le_trans hB hbe2.size) (HP.out.keep hbe2) (HQ.out.keep hbe2) HI2.out.ds HI2.out.bs.2.2.1 HI2.out.w64 er her
    have t0:=(HI2.out.be.cell (p:=⟨w.heap.size,0,none⟩) (by simp)).trans HT0.out.c0
    have t1:=(HI2.out.be.cell (p:=⟨w.heap.size,1,none⟩) (by simp)).trans HT0.out.c1
    have b1:(x.act == 1)=true:=by simpa using h6
    clear her hbe2
    go_wp2_with fail
    refine kO.mono ?_
    rintro x5 w' ⟨hb5,h5⟩
    have HB5:Hid (Below w2.heap.size w2 w'):=hb5
    have hkb:Keeps w2 w' (fun _=>False):=keeps_below hb5
    have hnb:¬ False:=fun h=>h
    rcases h5 with ⟨h0,rfl⟩ | ⟨h0,bh,rfl,hou⟩
    ·skip
     obtain ⟨w3,hw3⟩:∃ w3,w'.setCell ⟨wr.heap.size + 1,0,none⟩ (.int .i64 er)=w3:=⟨_,rfl⟩
     have HBw:Bx w' (wr.heap.size + 1) [.int .i64 0,.slice none 0 0,.int .i64 0,.int .i64 0,.int .i64 0,.slice none 0 0]:=HBX.out.kp hkb hnb
     have y0:=(HBw 0 _ rfl).c
     have y1:=(HBw 0 _ rfl).f
     have HB3:Hid (Bx w3 (wr.heap.size + 1) [.int .i64 er,.slice none 0 0,.int .i64 0,.int .i64 0,.int .i64 0,.slice none 0 0]):=hw3▸HBw.set (i:=0) (by simp) _
     have HW3:Hid (Keeps w' w3 (fun k=>k=wr.heap.size + 1)):=hw3▸keeps_set (keeps_refl w' (fun k=>k=wr.heap.size + 1)) (p:=⟨wr.heap.size + 1,0,none⟩) (.inl rfl) _
     have r0:=(HB3.out 0 _ rfl).c
     clear HBw hkb hnb
     have q0:(er == 0)=false:=by simpa using h0
     have q1:(er != 0)=true:=by simpa using h0
     have HH0:Hid (er≠0):=h0
     have hs5:w2.heap.size≤w'.heap.size:=hb5.size
     clear kO t0 t1 b1 hb5 a0 a1 h0
     go_upto_region 23 with fail
     clear hw3 y0 y1 r0 q0 q1
     have HI3:Hid (HuI W0 w3 (w.heap.size + 1) w1.heap.size bw (some ⟨bw,0,none⟩) c l (K.rr rs) (.pointer none) u11 ⟨S.disk,S.left,false,false,K.P.liesT S.disk⟩ os M G) :=
      HI1.out.call (s':=⟨S.disk,S.left,false,false,K.P.liesT S.disk⟩) (keeps_below (bt HW2.out HB5.out)) (HI2.out.ds.at HB5.out) HI1.out.w64 HI1.out.i64 M G (fun _ m=>.inl m) (fun _ m=>.inl m) (fun _ m=>m) (fun _=>rfl) (fun h=>by cases h) HW3.out
     have HS3:Hid (SeenM w3 G ⟨er,none,[]⟩ [.int .i64 er,.slice none 0 0,.int .i64 0,.int .i64 0,.int .i64 0,.slice none 0 0]):=seen0 w3 G er
     have HE3:Hid (stepP l (K.rr rs) S x=(⟨S.disk,S.left,false,false,K.P.liesT S.disk⟩,⟨er,none,[]⟩)):=by
      unfold stepP evT
      rw [Hid,if_neg (fun h=>by omega),if_pos h6,HER.out]
      simp [stepH,HH0.out]
     have HON:Hid (∀ u∈([.int .i64 er,.slice none 0 0,.int .i64 0,.int .i64 0,.int .i64 0,.slice none 0 0]:List Value),u.oneCell' = true):=by
      intro u hu
      simp only [List.mem_cons,List.not_mem_nil,or_false] at hu
      rcases hu with rfl | rfl | rfl | rfl | rfl | rfl <;> rfl
     obtain ⟨css,o1,o2,o3,o4⟩:=HI3.out.out
     have HO1:Hid (css.length=os.length∧(∀ g9,u11.ownBlock=some g9→g9≠w1.heap.size∧g9≠bw∧¬ G g9∧¬ M g9)∧∀ (i:Nat) x cs,os[i]? = some x→css[i]? = some cs→SeenM w3 G x cs):=⟨o1,o3,o4⟩
     have HO2:Hid (w3.ownsRow (w.heap.size + 1) 42 6 u11 os.length css.flatten):=o2
     have HO3:Hid ((w3.alloc (.cells #[.int .i64 er,.slice none 0 0,.int .i64 0,.int .i64 0,.int .i64 0,.slice none 0 0] 42)).ownsRow (w.heap.size + 1) 42 6 u11 os.length css.flatten):=o2.alloc _
     have hN3:w.heap.size + 1≤w3.heap.size:=by have:=HI3.out.be.size; have:=HI3.out.bs.2.2.2; omega
     have r0:=(HB3.out 0 _ rfl).c
     have r1:=(HB3.out 1 _ rfl).c
     have r2:=(HB3.out 2 _ rfl).c
     have r3:=(HB3.out 3 _ rfl).c
     have r4:=(HB3.out 4 _ rfl).c
     have r5:=(HB3.out 5 _ rfl).c
     have HQ2:Hid (∀ j u,([.int .i64 er,.slice none 0 0,.int .i64 0,.int .i64 0,.int .i64 0,.slice none 0 0]:List Value)[j]? = some u→(w3.alloc (.cells #[.int .i64 er,.slice none 0 0,.int .i64 0,.int .i64 0,.int .i64 0,.slice none 0 0] 42)).cell? ((⟨w3.heap.size,0,none⟩:Addr).add j)=some u):=by
      intro j u hj
      have e:(⟨w3.heap.size,0,none⟩:Addr).add j=⟨w3.heap.size,j,none⟩:=by unfold Addr.add; split <;> simp_all
      rw [e]
      exact (Bx.new w3 [.int .i64 er,.slice none 0 0,.int .i64 0,.int .i64 0,.int .i64 0,.slice none 0 0] 42 rfl j u hj).c
     have HQ4:Hid (os.length + 1≤maxLen):=by have:=HOL.out; show _≤_; unfold maxLen; omega
     have HQ5:Hid ((os.length + 1) * 80≤140737488355328):=by have:=HOL.out; show _≤_; omega
     have HQ6:Hid (w.heap.size + 1≤(w3.alloc (.cells #[.int .i64 er,.slice none 0 0,.int .i64 0,.int .i64 0,.int .i64 0,.slice none 0 0] 42)).heap.size):=by show _≤_; simp; omega
     have HQ7:Hid ((w3.alloc (.cells #[.int .i64 er,.slice none 0 0,.int .i64 0,.int .i64 0,.int .i64 0,.slice none 0 0] 42)).heap.size=w3.heap.size + 1):=by show _=_; simp
     clear o1 o2 o3 o4
     refine wp_region_lit ?_
     go_step
     go_step
     go_step
     go_step
     go_step
     go_step
     refine wpList_build1 rfl 28 42 _ rfl w3.heap.size rfl _ rfl Tryz.underlying28 (.agg #[.int .i64 er,.slice none 0 0,.int .i64 0,.int .i64 0,.int .i64 0,.slice none 0 0]) rfl #[.int .i64 er,.slice none 0 0,.int .i64 0,.int .i64 0,.int .i64 0,.slice none 0 0] (blt42 _ _ _ _ _ _ _ _ _ _) ?_
     refine wpList_append_lies _ rfl _ _ 28 rfl (w.heap.size + 1) 42 i4 (.agg #[.int .i64 0,.slice none 0 0,.int .i64 0,.int .i64 0,.int .i64 0,.slice none 0 0]) 6 80 Tryz.underlying28 hi4 hz40 hz41 hz42 rfl (by decide) _ _ _ rfl HO3.out ⟨w3.heap.size,0,none⟩ 1 1 [.int .i64 er,.slice none 0 0,.int .i64 0,.int .i64 0,.int .i64 0,.slice none 0 0] rfl rfl HQ2.out HON.out (by decide) HQ4.out HQ5.out HQ6.out (w3.heap.size + 1) HQ7.out ?_
     intro g9 cap w5 hown hgrow hat hglt
     have h5:Hid (HuI W0 w5 (w.heap.size + 1) w1.heap.size bw (some ⟨bw,0,none⟩) c l (K.rr rs) (.pointer none) (.slice (some ⟨g9,0,none⟩) (os.length + 1) cap) ⟨S.disk,S.left,false,false,K.P.liesT S.disk⟩ (os ++ [⟨er,none,[]⟩]) M G):=by
      have hg3:w3.grownBy w5 u11.ownBlock:=⟨hgrow.os,hgrow.tape,hgrow.output,Nat.le_trans (by simp) hgrow.size,fun k hk hn=>(hgrow.block k (by simp; omega) hn).trans (Below.heap_alloc _ _ _ hk)⟩
      exact HI3.out.snoc HS3.out rfl css HO1.out.1 HO2.out HO1.out.2.1 HO1.out.2.2 hg3 hown (hat.imp id (fun h=>by omega))
     have HN5:=NXT.out ⟨S.disk,S.left,false,false,K.P.liesT S.disk⟩ ⟨er,none,[]⟩ HE3.out
     have HN6:Hid _:=HN5
     clear hown hgrow hat HN5 r0 r1 r2 r3 r4 r5 HB3 HO1 HO2 HO3
     go_wp2
     refine ⟨⟨i + 1,M,G,by go_num,h1,?_⟩,by simp [intOf]; omega⟩
     rw [HN6.out]
     exact h5
    ·skip
     subst h0
     obtain ⟨w3,hw3⟩:∃ w3,w'.setCell ⟨wr.heap.size + 1,0,none⟩ (.int .i64 0)=w3:=⟨_,rfl⟩
     have HBw:Bx w' (wr.heap.size + 1) [.int .i64 0,.slice none 0 0,.int .i64 0,.int .i64 0,.int .i64 0,.slice none 0 0]:=HBX.out.kp hkb hnb
     have y0:=(HBw 0 _ rfl).c
     have y1:=(HBw 0 _ rfl).f
     have HB3:Hid (Bx w3 (wr.heap.size + 1) [.int .i64 0,.slice none 0 0,.int .i64 0,.int .i64 0,.int .i64 0,.slice none 0 0]):=hw3▸HBw.set (i:=0) (by simp) _
     have HW3:Hid (Keeps w' w3 (fun k=>k=wr.heap.size + 1)):=hw3▸keeps_set (keeps_refl w' (fun k=>k=wr.heap.size + 1)) (p:=⟨wr.heap.size + 1,0,none⟩) (.inl rfl) _
     have r0:=(HB3.out 0 _ rfl).c
     clear HBw hkb hnb
     have HOU:Hid (HouM w' (fun k=>w2.heap.size≤k∧k < w'.heap.size) bh w1.heap.size l (K.rr rs) (K.P.liesT S.disk)):=hou
     have hmb:w2.heap.size≤bh∧bh < w'.heap.size:=by
      obtain ⟨_,_,_,_,_,_,_,_,_,_,q⟩:=hou
      exact q.mm bh (.inl rfl)
     have HMB:Hid (w2.heap.size≤bh∧bh < w'.heap.size):=hmb
     clear kO t0 t1 b1 hb5 a0 a1 hou hmb
     go_upto_region 23 with fail
     clear hw3 y0 y1 r0
     have HI3:Hid (HuI W0 w3 (w.heap.size + 1) w1.heap.size bw (some ⟨bw,0,none⟩) c l (K.rr rs) (.pointer (some ⟨bh,0,none⟩)) u11 ⟨S.disk,S.left,true,false,K.P.liesT S.disk⟩ os (fun k=>w2.heap.size≤k∧k < w'.heap.size) G) :=
      HI1.out.call (s':=⟨S.disk,S.left,true,false,K.P.liesT S.disk⟩) (keeps_below (bt HW2.out HB5.out)) (HI2.out.ds.at HB5.out) HI1.out.w64 HI1.out.i64 (fun k=>w2.heap.size≤k∧k < w'.heap.size) G (fun _ m=>.inr ⟨by omega,m.2⟩) (fun _ m=>.inl m) (fun _ m=>m) (fun h=>by cases h) (fun _=>⟨HER.out,bh,rfl,HMB.out,fun _=>HOU.out,fun h=>by cases h⟩) HW3.out
     have HS3:Hid (SeenM w3 G ⟨0,none,[]⟩ [.int .i64 0,.slice none 0 0,.int .i64 0,.int .i64 0,.int .i64 0,.slice none 0 0]):=seen0 w3 G 0
     have HE3:Hid (stepP l (K.rr rs) S x=(⟨S.disk,S.left,true,false,K.P.liesT S.disk⟩,⟨0,none,[]⟩)):=by
      unfold stepP evT
      rw [Hid,if_neg (fun h=>by omega),if_pos h6,HER.out]
      simp [stepH]
     have HON:Hid (∀ u∈([.int .i64 0,.slice none 0 0,.int .i64 0,.int .i64 0,.int .i64 0,.slice none 0 0]:List Value),u.oneCell' = true):=by
      intro u hu
      simp only [List.mem_cons,List.not_mem_nil,or_false] at hu
      rcases hu with rfl | rfl | rfl | rfl | rfl | rfl <;> rfl
     obtain ⟨css,o1,o2,o3,o4⟩:=HI3.out.out
     have HO1:Hid (css.length=os.length∧(∀ g9,u11.ownBlock=some g9→g9≠w1.heap.size∧g9≠bw∧¬ G g9∧¬ (fun k=>w2.heap.size≤k∧k < w'.heap.size) g9)∧∀ (i:Nat) x cs,os[i]? = some x→css[i]? = some cs→SeenM w3 G x cs):=⟨o1,o3,o4⟩
     have HO2:Hid (w3.ownsRow (w.heap.size + 1) 42 6 u11 os.length css.flatten):=o2
     have HO3:Hid ((w3.alloc (.cells #[.int .i64 0,.slice none 0 0,.int .i64 0,.int .i64 0,.int .i64 0,.slice none 0 0] 42)).ownsRow (w.heap.size + 1) 42 6 u11 os.length css.flatten):=o2.alloc _
     have hN3:w.heap.size + 1≤w3.heap.size:=by have:=HI3.out.be.size; have:=HI3.out.bs.2.2.2; omega
     have r0:=(HB3.out 0 _ rfl).c
     have r1:=(HB3.out 1 _ rfl).c
     have r2:=(HB3.out 2 _ rfl).c
     have r3:=(HB3.out 3 _ rfl).c
     have r4:=(HB3.out 4 _ rfl).c
     have r5:=(HB3.out 5 _ rfl).c
     have HQ2:Hid (∀ j u,([.int .i64 0,.slice none 0 0,.int .i64 0,.int .i64 0,.int .i64 0,.slice none 0 0]:List Value)[j]? = some u→(w3.alloc (.cells #[.int .i64 0,.slice none 0 0,.int .i64 0,.int .i64 0,.int .i64 0,.slice none 0 0] 42)).cell? ((⟨w3.heap.size,0,none⟩:Addr).add j)=some u):=by
      intro j u hj
      have e:(⟨w3.heap.size,0,none⟩:Addr).add j=⟨w3.heap.size,j,none⟩:=by unfold Addr.add; split <;> simp_all
      rw [e]
      exact (Bx.new w3 [.int .i64 0,.slice none 0 0,.int .i64 0,.int .i64 0,.int .i64 0,.slice none 0 0] 42 rfl j u hj).c
     have HQ4:Hid (os.length + 1≤maxLen):=by have:=HOL.out; show _≤_; unfold maxLen; omega
     have HQ5:Hid ((os.length + 1) * 80≤140737488355328):=by have:=HOL.out; show _≤_; omega
     have HQ6:Hid (w.heap.size + 1≤(w3.alloc (.cells #[.int .i64 0,.slice none 0 0,.int .i64 0,.int .i64 0,.int .i64 0,.slice none 0 0] 42)).heap.size):=by show _≤_; simp; omega
     have HQ7:Hid ((w3.alloc (.cells #[.int .i64 0,.slice none 0 0,.int .i64 0,.int .i64 0,.int .i64 0,.slice none 0 0] 42)).heap.size=w3.heap.size + 1):=by show _=_; simp
     clear o1 o2 o3 o4
     refine wp_region_lit ?_
     go_step
     go_step
     go_step
     go_step
     go_step
     go_step
     refine wpList_build1 rfl 28 42 _ rfl w3.heap.size rfl _ rfl Tryz.underlying28 (.agg #[.int .i64 0,.slice none 0 0,.int .i64 0,.int .i64 0,.int .i64 0,.slice none 0 0]) rfl #[.int .i64 0,.slice none 0 0,.int .i64 0,.int .i64 0,.int .i64 0,.slice none 0 0] (blt42 _ _ _ _ _ _ _ _ _ _) ?_
     refine wpList_append_lies _ rfl _ _ 28 rfl (w.heap.size + 1) 42 i4 (.agg #[.int .i64 0,.slice none 0 0,.int .i64 0,.int .i64 0,.int .i64 0,.slice none 0 0]) 6 80 Tryz.underlying28 hi4 hz40 hz41 hz42 rfl (by decide) _ _ _ rfl HO3.out ⟨w3.heap.size,0,none⟩ 1 1 [.int .i64 0,.slice none 0 0,.int .i64 0,.int .i64 0,.int .i64 0,.slice none 0 0] rfl rfl HQ2.out HON.out (by decide) HQ4.out HQ5.out HQ6.out (w3.heap.size + 1) HQ7.out ?_
     intro g9 cap w5 hown hgrow hat hglt
     have h5:Hid (HuI W0 w5 (w.heap.size + 1) w1.heap.size bw (some ⟨bw,0,none⟩) c l (K.rr rs) (.pointer (some ⟨bh,0,none⟩)) (.slice (some ⟨g9,0,none⟩) (os.length + 1) cap) ⟨S.disk,S.left,true,false,K.P.liesT S.disk⟩ (os ++ [⟨0,none,[]⟩]) (fun k=>w2.heap.size≤k∧k < w'.heap.size) G):=by
      have hg3:w3.grownBy w5 u11.ownBlock:=⟨hgrow.os,hgrow.tape,hgrow.output,Nat.le_trans (by simp) hgrow.size,fun k hk hn=>(hgrow.block k (by simp; omega) hn).trans (Below.heap_alloc _ _ _ hk)⟩
      exact HI3.out.snoc HS3.out rfl css HO1.out.1 HO2.out HO1.out.2.1 HO1.out.2.2 hg3 hown (hat.imp id (fun h=>by omega))
     have HN5:=NXT.out ⟨S.disk,S.left,true,false,K.P.liesT S.disk⟩ ⟨0,none,[]⟩ HE3.out
     have HN6:Hid _:=HN5
     clear hown hgrow hat HN5 r0 r1 r2 r3 r4 r5 HB3 HO1 HO2 HO3
     go_wp2
     refine ⟨⟨i + 1,(fun k=>w2.heap.size≤k∧k < w'.heap.size),G,by go_num,h1,?_⟩,by simp [intOf]; omega⟩
     rw [HN6.out]
     exact h5
   by_cases h7:x.act=4
   ·as_aux_lemma =>
    have dk1:=HI2.out.ds.c1.c
    have dkf:=HI2.out.ds.c1.f
    have b1:(x.act == 1)=false:=by simpa using h6
    have b4:(x.act == 4)=true:=by simpa using h7
    obtain ⟨w3,hw3⟩:∃ w3,w2.setCell ⟨w1.heap.size,1,none⟩ (.int .i64 x.n)=w3:=⟨_,rfl⟩
    have hbl:w1.heap.size < wr.heap.size:=HNE.out _ (.inr (.inl rfl))
    have HB3:Hid (Bx w3 (wr.heap.size + 1) [.int .i64 0,.slice none 0 0,.int .i64 0,.int .i64 0,.int .i64 0,.slice none 0 0]):=hw3▸HBX.out.oth (by omega) _
    have HW3:Hid (Keeps w2 w3 (fun k=>k=w1.heap.size)):=hw3▸keeps_set (keeps_refl w2 (fun k=>k=w1.heap.size)) (p:=⟨w1.heap.size,1,none⟩) (.inl rfl) _
    have HW4:Hid (Keeps w2 w3 (fun k=>M k∨k=w1.heap.size∨k=bw)):=hw3▸keeps_set (keeps_refl w2 (fun k=>M k∨k=w1.heap.size∨k=bw)) (p:=⟨w1.heap.size,1,none⟩) (.inl (.inr (.inl rfl))) _
    have HD3:Hid (DskM w3 w1.heap.size bw (some ⟨bw,0,none⟩) c S.disk x.n):=hw3▸HI2.out.ds.left x.n
    go_upto_region 23 with fail
    clear hw3 dk1 dkf b1 b4 a0 a1
    have HI3:Hid (HuI W0 w3 (w.heap.size + 1) w1.heap.size bw (some ⟨bw,0,none⟩) c l (K.rr rs) u10 u11 ⟨S.disk,x.n,S.up,S.brk,S.done⟩ os M G) :=
     HI2.out.step (s':=⟨S.disk,x.n,S.up,S.brk,S.done⟩) HW4.out HD3.out HI2.out.w64 HX.out.2.2.2.1 M G (fun _ m=>.inl m) (fun _ m=>.inl m) (fun _ m=>m) HI2.out.dn (fun u=>by
      obtain ⟨e,bh,q1,q2,q3,q4⟩:=HI2.out.up u
      exact ⟨e,bh,q1,q2,fun x=>(q3 x).kp HW3.out (fun k m=>(HI2.out.mm k m).2.2.1),fun x=>K.P.cl_kp (q4 x) HW3.out ((HI2.out.mm _ q2).2.2.1)⟩)
    have HS3:Hid (SeenM w3 G ⟨0,none,[]⟩ [.int .i64 0,.slice none 0 0,.int .i64 0,.int .i64 0,.int .i64 0,.slice none 0 0]):=seen0 w3 G 0
    have HE3:Hid (stepP l (K.rr rs) S x=(⟨S.disk,x.n,S.up,S.brk,S.done⟩,⟨0,none,[]⟩)):=by
     unfold stepP evT
     rw [Hid,if_neg (fun h=>by omega),if_neg h6,if_pos h7]
     rfl
    have HON:Hid (∀ u∈([.int .i64 0,.slice none 0 0,.int .i64 0,.int .i64 0,.int .i64 0,.slice none 0 0]:List Value),u.oneCell' = true):=by
     intro u hu
     simp only [List.mem_cons,List.not_mem_nil,or_false] at hu
     rcases hu with rfl | rfl | rfl | rfl | rfl | rfl <;> rfl
    obtain ⟨css,o1,o2,o3,o4⟩:=HI3.out.out
    have HO1:Hid (css.length=os.length∧(∀ g9,u11.ownBlock=some g9→g9≠w1.heap.size∧g9≠bw∧¬ G g9∧¬ M g9)∧∀ (i:Nat) x cs,os[i]? = some x→css[i]? = some cs→SeenM w3 G x cs):=⟨o1,o3,o4⟩
    have HO2:Hid (w3.ownsRow (w.heap.size + 1) 42 6 u11 os.length css.flatten):=o2
    have HO3:Hid ((w3.alloc (.cells #[.int .i64 0,.slice none 0 0,.int .i64 0,.int .i64 0,.int .i64 0,.slice none 0 0] 42)).ownsRow (w.heap.size + 1) 42 6 u11 os.length css.flatten):=o2.alloc _
    have hN3:w.heap.size + 1≤w3.heap.size:=by have:=HI3.out.be.size; have:=HI3.out.bs.2.2.2; omega
    have r0:=(HB3.out 0 _ rfl).c
    have r1:=(HB3.out 1 _ rfl).c
    have r2:=(HB3.out 2 _ rfl).c
    have r3:=(HB3.out 3 _ rfl).c
    have r4:=(HB3.out 4 _ rfl).c
    have r5:=(HB3.out 5 _ rfl).c
    have HQ2:Hid (∀ j u,([.int .i64 0,.slice none 0 0,.int .i64 0,.int .i64 0,.int .i64 0,.slice none 0 0]:List Value)[j]? = some u→(w3.alloc (.cells #[.int .i64 0,.slice none 0 0,.int .i64 0,.int .i64 0,.int .i64 0,.slice none 0 0] 42)).cell? ((⟨w3.heap.size,0,none⟩:Addr).add j)=some u):=by
     intro j u hj
     have e:(⟨w3.heap.size,0,none⟩:Addr).add j=⟨w3.heap.size,j,none⟩:=by unfold Addr.add; split <;> simp_all
     rw [e]
     exact (Bx.new w3 [.int .i64 0,.slice none 0 0,.int .i64 0,.int .i64 0,.int .i64 0,.slice none 0 0] 42 rfl j u hj).c
    have HQ4:Hid (os.length + 1≤maxLen):=by have:=HOL.out; show _≤_; unfold maxLen; omega
    have HQ5:Hid ((os.length + 1) * 80≤140737488355328):=by have:=HOL.out; show _≤_; omega
    have HQ6:Hid (w.heap.size + 1≤(w3.alloc (.cells #[.int .i64 0,.slice none 0 0,.int .i64 0,.int .i64 0,.int .i64 0,.slice none 0 0] 42)).heap.size):=by show _≤_; simp; omega
    have HQ7:Hid ((w3.alloc (.cells #[.int .i64 0,.slice none 0 0,.int .i64 0,.int .i64 0,.int .i64 0,.slice none 0 0] 42)).heap.size=w3.heap.size + 1):=by show _=_; simp
    clear o1 o2 o3 o4
    refine wp_region_lit ?_
    go_step
    go_step
    go_step
    go_step
    go_step
    go_step
    refine wpList_build1 rfl 28 42 _ rfl w3.heap.size rfl _ rfl Tryz.underlying28 (.agg #[.int .i64 0,.slice none 0 0,.int .i64 0,.int .i64 0,.int .i64 0,.slice none 0 0]) rfl #[.int .i64 0,.slice none 0 0,.int .i64 0,.int .i64 0,.int .i64 0,.slice none 0 0] (blt42 _ _ _ _ _ _ _ _ _ _) ?_
    refine wpList_append_lies _ rfl _ _ 28 rfl (w.heap.size + 1) 42 i4 (.agg #[.int .i64 0,.slice none 0 0,.int .i64 0,.int .i64 0,.int .i64 0,.slice none 0 0]) 6 80 Tryz.underlying28 hi4 hz40 hz41 hz42 rfl (by decide) _ _ _ rfl HO3.out ⟨w3.heap.size,0,none⟩ 1 1 [.int .i64 0,.slice none 0 0,.int .i64 0,.int .i64 0,.int .i64 0,.slice none 0 0] rfl rfl HQ2.out HON.out (by decide) HQ4.out HQ5.out HQ6.out (w3.heap.size + 1) HQ7.out ?_
    intro g9 cap w5 hown hgrow hat hglt
    have h5:Hid (HuI W0 w5 (w.heap.size + 1) w1.heap.size bw (some ⟨bw,0,none⟩) c l (K.rr rs) u10 (.slice (some ⟨g9,0,none⟩) (os.length + 1) cap) ⟨S.disk,x.n,S.up,S.brk,S.done⟩ (os ++ [⟨0,none,[]⟩]) M G):=by
     have hg3:w3.grownBy w5 u11.ownBlock:=⟨hgrow.os,hgrow.tape,hgrow.output,Nat.le_trans (by simp) hgrow.size,fun k hk hn=>(hgrow.block k (by simp; omega) hn).trans (Below.heap_alloc _ _ _ hk)⟩
     exact HI3.out.snoc HS3.out rfl css HO1.out.1 HO2.out HO1.out.2.1 HO1.out.2.2 hg3 hown (hat.imp id (fun h=>by omega))
    have HN5:=NXT.out ⟨S.disk,x.n,S.up,S.brk,S.done⟩ ⟨0,none,[]⟩ HE3.out
    have HN6:Hid _:=HN5
    clear hown hgrow hat HN5 r0 r1 r2 r3 r4 r5 HB3 HO1 HO2 HO3
    go_wp2
    refine ⟨⟨i + 1,M,G,by go_num,h1,?_⟩,by simp [intOf]; omega⟩
    rw [HN6.out]
    exact h5
   have b1:(x.act == 1)=false:=by simpa using h6
   have b4:(x.act == 4)=false:=by simpa using h7
   by_cases h8:x.act=6
   ·by_cases hp:0≤x.n∧x.n < S.disk.length
    ·as_aux_lemma =>
     obtain ⟨m,hm⟩:∃ m:Nat,x.n=m:=⟨x.n.toNat,by omega⟩
     have hml:m < S.disk.length:=by omega
     obtain ⟨y,hy⟩:∃ y,S.disk[m]? = some y:=⟨_,List.getElem?_eq_getElem hml⟩
     have dk0:=HI2.out.ds.c0.c
     have dw:=(HI2.out.ds.ar m y hy).c
     have dwf:=(HI2.out.ds.ar m y hy).f
     have a17:=(HBS.out 17 _ rfl).c
     have b1:(x.act == 1)=false:=by simpa using h6
     have b4:(x.act == 4)=false:=by simpa using h7
     have b6:(x.act == 6)=true:=by simpa using h8
     rw [hm] at a1
     have HM:Hid (x.n=m):=hm
     have HML:Hid (m < S.disk.length):=hml
     have hml2:(m:Int) < (S.disk.length:Int):=by omega
     have hm0:(0:Int)≤(m:Int):=by omega
     have hrg:Hid (x.act=6∧0≤x.n∧x.n < S.disk.length):=⟨h8,hp.1,hp.2⟩
     clear hm hp hy
     go_wp2_with fail
     go_quiet (fail)
     go_wp2_with fail
     go_region
     obtain ⟨w3,hw3⟩:∃ w3,(w2.drewN (nq + 1)).setCell ⟨bw,m,none⟩ (.int .i64 x.word)=w3:=⟨_,rfl⟩
     have hb4:Below w2.heap.size w2 (w2.drewN (nq + 1)):=⟨rfl,rfl,rfl,Nat.le_refl _,fun _ _=>rfl⟩
     have hbl:bw < wr.heap.size:=HNE.out _ (.inr (.inr rfl))
     have HB3:Hid (Bx w3 (wr.heap.size + 1) [.int .i64 0,.slice none 0 0,.int .i64 0,.int .i64 0,.int .i64 0,.slice none 0 0]):=hw3▸(HBX.out.at hb4).oth (by omega) _
     have HW3:Hid (Keeps w2 w3 (fun k=>k=bw)):=hw3▸keeps_set (N:=fun k=>k=bw) (keeps_below hb4) (p:=⟨bw,m,none⟩) (.inl rfl) _
     have HW4:Hid (Keeps w2 w3 (fun k=>M k∨k=w1.heap.size∨k=bw)):=hw3▸keeps_set (N:=(fun k=>M k∨k=w1.heap.size∨k=bw)) (keeps_below hb4) (p:=⟨bw,m,none⟩) (.inl (.inr (.inr rfl))) _
     have HD3:Hid (DskM w3 w1.heap.size bw (some ⟨bw,0,none⟩) c (S.disk.set m x.word) S.left):=hw3▸(HI2.out.ds.at hb4).put HML.out x.word
     clear hb4
     rw [hw3]
     clear hw3
     go_upto_region 23 with fail
     clear dk0 dw dwf a17 b1 b4 b6 a0 a1
     have HI3:Hid (HuI W0 w3 (w.heap.size + 1) w1.heap.size bw (some ⟨bw,0,none⟩) c l (K.rr rs) u10 u11 ⟨S.disk.set m x.word,S.left,S.up,S.brk,S.done⟩ os M G) :=
      HI2.out.step (s':=⟨S.disk.set m x.word,S.left,S.up,S.brk,S.done⟩) HW4.out HD3.out (fun y hy=>by
       rcases List.mem_or_eq_of_mem_set hy with hy | rfl
       ·exact HI2.out.w64 y hy
       ·exact HX.out.2.2.2.2.1) HI2.out.i64 M G (fun _ m=>.inl m) (fun _ m=>.inl m) (fun _ m=>m) HI2.out.dn (fun u=>by
       obtain ⟨e,bh,q1,q2,q3,q4⟩:=HI2.out.up u
       exact ⟨e,bh,q1,q2,fun x=>(q3 x).kp HW3.out (fun k m=>(HI2.out.mm k m).2.2.2.1),fun x=>K.P.cl_kp (q4 x) HW3.out ((HI2.out.mm _ q2).2.2.2.1)⟩)
     have HS3:Hid (SeenM w3 G ⟨0,none,[]⟩ [.int .i64 0,.slice none 0 0,.int .i64 0,.int .i64 0,.int .i64 0,.slice none 0 0]):=seen0 w3 G 0
     have HE3:Hid (stepP l (K.rr rs) S x=(⟨S.disk.set m x.word,S.left,S.up,S.brk,S.done⟩,⟨0,none,[]⟩)):=by
      unfold stepP
      rw [Hid,if_pos hrg.out,HM.out]
      rfl
     have HON:Hid (∀ u∈([.int .i64 0,.slice none 0 0,.int .i64 0,.int .i64 0,.int .i64 0,.slice none 0 0]:List Value),u.oneCell' = true):=by
      intro u hu
      simp only [List.mem_cons,List.not_mem_nil,or_false] at hu
      rcases hu with rfl | rfl | rfl | rfl | rfl | rfl <;> rfl
     obtain ⟨css,o1,o2,o3,o4⟩:=HI3.out.out
     have HO1:Hid (css.length=os.length∧(∀ g9,u11.ownBlock=some g9→g9≠w1.heap.size∧g9≠bw∧¬ G g9∧¬ M g9)∧∀ (i:Nat) x cs,os[i]? = some x→css[i]? = some cs→SeenM w3 G x cs):=⟨o1,o3,o4⟩
     have HO2:Hid (w3.ownsRow (w.heap.size + 1) 42 6 u11 os.length css.flatten):=o2
     have HO3:Hid ((w3.alloc (.cells #[.int .i64 0,.slice none 0 0,.int .i64 0,.int .i64 0,.int .i64 0,.slice none 0 0] 42)).ownsRow (w.heap.size + 1) 42 6 u11 os.length css.flatten):=o2.alloc _
     have hN3:w.heap.size + 1≤w3.heap.size:=by have:=HI3.out.be.size; have:=HI3.out.bs.2.2.2; omega
     have r0:=(HB3.out 0 _ rfl).c
     have r1:=(HB3.out 1 _ rfl).c
     have r2:=(HB3.out 2 _ rfl).c
     have r3:=(HB3.out 3 _ rfl).c
     have r4:=(HB3.out 4 _ rfl).c
     have r5:=(HB3.out 5 _ rfl).c
     have HQ2:Hid (∀ j u,([.int .i64 0,.slice none 0 0,.int .i64 0,.int .i64 0,.int .i64 0,.slice none 0 0]:List Value)[j]? = some u→(w3.alloc (.cells #[.int .i64 0,.slice none 0 0,.int .i64 0,.int .i64 0,.int .i64 0,.slice none 0 0] 42)).cell? ((⟨w3.heap.size,0,none⟩:Addr).add j)=some u):=by
      intro j u hj
      have e:(⟨w3.heap.size,0,none⟩:Addr).add j=⟨w3.heap.size,j,none⟩:=by unfold Addr.add; split <;> simp_all
      rw [e]
      exact (Bx.new w3 [.int .i64 0,.slice none 0 0,.int .i64 0,.int .i64 0,.int .i64 0,.slice none 0 0] 42 rfl j u hj).c
     have HQ4:Hid (os.length + 1≤maxLen):=by have:=HOL.out; show _≤_; unfold maxLen; omega
     have HQ5:Hid ((os.length + 1) * 80≤140737488355328):=by have:=HOL.out; show _≤_; omega
     have HQ6:Hid (w.heap.size + 1≤(w3.alloc (.cells #[.int .i64 0,.slice none 0 0,.int .i64 0,.int .i64 0,.int .i64 0,.slice none 0 0] 42)).heap.size):=by show _≤_; simp; omega
     have HQ7:Hid ((w3.alloc (.cells #[.int .i64 0,.slice none 0 0,.int .i64 0,.int .i64 0,.int .i64 0,.slice none 0 0] 42)).heap.size=w3.heap.size + 1):=by show _=_; simp
     clear o1 o2 o3 o4
     refine wp_region_lit ?_
     go_step
     go_step
     go_step
     go_step
     go_step
     go_step
     refine wpList_build1 rfl 28 42 _ rfl w3.heap.size rfl _ rfl Tryz.underlying28 (.agg #[.int .i64 0,.slice none 0 0,.int .i64 0,.int .i64 0,.int .i64 0,.slice none 0 0]) rfl #[.int .i64 0,.slice none 0 0,.int .i64 0,.int .i64 0,.int .i64 0,.slice none 0 0] (blt42 _ _ _ _ _ _ _ _ _ _) ?_
     refine wpList_append_lies _ rfl _ _ 28 rfl (w.heap.size + 1) 42 i4 (.agg #[.int .i64 0,.slice none 0 0,.int .i64 0,.int .i64 0,.int .i64 0,.slice none 0 0]) 6 80 Tryz.underlying28 hi4 hz40 hz41 hz42 rfl (by decide) _ _ _ rfl HO3.out ⟨w3.heap.size,0,none⟩ 1 1 [.int .i64 0,.slice none 0 0,.int .i64 0,.int .i64 0,.int .i64 0,.slice none 0 0] rfl rfl HQ2.out HON.out (by decide) HQ4.out HQ5.out HQ6.out (w3.heap.size + 1) HQ7.out ?_
     intro g9 cap w5 hown hgrow hat hglt
     have h5:Hid (HuI W0 w5 (w.heap.size + 1) w1.heap.size bw (some ⟨bw,0,none⟩) c l (K.rr rs) u10 (.slice (some ⟨g9,0,none⟩) (os.length + 1) cap) ⟨S.disk.set m x.word,S.left,S.up,S.brk,S.done⟩ (os ++ [⟨0,none,[]⟩]) M G):=by
      have hg3:w3.grownBy w5 u11.ownBlock:=⟨hgrow.os,hgrow.tape,hgrow.output,Nat.le_trans (by simp) hgrow.size,fun k hk hn=>(hgrow.block k (by simp; omega) hn).trans (Below.heap_alloc _ _ _ hk)⟩
      exact HI3.out.snoc HS3.out rfl css HO1.out.1 HO2.out HO1.out.2.1 HO1.out.2.2 hg3 hown (hat.imp id (fun h=>by omega))
     have HN5:=NXT.out ⟨S.disk.set m x.word,S.left,S.up,S.brk,S.done⟩ ⟨0,none,[]⟩ HE3.out
     have HN6:Hid _:=HN5
     clear hown hgrow hat HN5 r0 r1 r2 r3 r4 r5 HB3 HO1 HO2 HO3
     go_wp2
     refine ⟨⟨i + 1,M,G,by go_num,h1,?_⟩,by simp [intOf]; omega⟩
     rw [HN6.out]
     exact h5
    ·as_aux_lemma =>
     by_cases hn0:0≤x.n
     ·by_cases h9:S.up=false
      ·obtain rfl:u10=.pointer none:=HI2.out.dn h9
       have b6:(x.act == 6)=true:=by simpa using h8
       have dk0:=HI2.out.ds.c0.c
       have b2:(x.act == 2)=false:=by simpa using (by omega:¬ x.act=2)
       have b3:(x.act == 3)=false:=by simpa using (by omega:¬ x.act=3)
       have b5:(x.act == 5)=false:=by simpa using (by omega:¬ x.act=5)
       have g0:(0:Int)≤x.n:=hn0
       have g1:¬ x.n < (S.disk.length:Int):=fun h=>hp ⟨hn0,h⟩
       go_wp2_with fail
       go_quiet (fail)
       obtain ⟨w3,hw3⟩:∃ w3,w2.drewN nq=w3:=⟨_,rfl⟩
       have hb3:Below w2.heap.size w2 w3:=hw3▸(⟨rfl,rfl,rfl,Nat.le_refl _,fun _ _=>rfl⟩:Below w2.heap.size w2 (w2.drewN nq))
       have HI3:Hid (HuI W0 w3 (w.heap.size + 1) w1.heap.size bw (some ⟨bw,0,none⟩) c l (K.rr rs) (.pointer none) u11 S os M G):=HI2.out.at hb3
       have HS3:Hid (SeenM w3 G ⟨0,none,[]⟩ [.int .i64 0,.slice none 0 0,.int .i64 0,.int .i64 0,.int .i64 0,.slice none 0 0]):=seen0 w3 G 0
       have HB3:Hid (Bx w3 (wr.heap.size + 1) [.int .i64 0,.slice none 0 0,.int .i64 0,.int .i64 0,.int .i64 0,.slice none 0 0]):=HBX.out.at hb3
       have e0:=((HBS.out 0 _ rfl).at hb3).c
       go_upto_region 23 with fail
       clear hw3 hb3 e0 a0 a1 dk0
       have HE3:Hid (stepP l (K.rr rs) S x=(S,⟨0,none,[]⟩)):=by
        unfold stepP evT
        rw [Hid,if_neg (fun h=>hp ⟨h.2.1,h.2.2⟩),if_neg h6,if_neg h7,if_neg (by omega),if_neg (by omega),if_neg (by omega)]
        rfl
       have HON:Hid (∀ u∈([.int .i64 0,.slice none 0 0,.int .i64 0,.int .i64 0,.int .i64 0,.slice none 0 0]:List Value),u.oneCell' = true):=by
        intro u hu
        simp only [List.mem_cons,List.not_mem_nil,or_false] at hu
        rcases hu with rfl | rfl | rfl | rfl | rfl | rfl <;> rfl
       obtain ⟨css,o1,o2,o3,o4⟩:=HI3.out.out
       have HO1:Hid (css.length=os.length∧(∀ g9,u11.ownBlock=some g9→g9≠w1.heap.size∧g9≠bw∧¬ G g9∧¬ M g9)∧∀ (i:Nat) x cs,os[i]? = some x→css[i]? = some cs→SeenM w3 G x cs):=⟨o1,o3,o4⟩
       have HO2:Hid (w3.ownsRow (w.heap.size + 1) 42 6 u11 os.length css.flatten):=o2
       have HO3:Hid ((w3.alloc (.cells #[.int .i64 0,.slice none 0 0,.int .i64 0,.int .i64 0,.int .i64 0,.slice none 0 0] 42)).ownsRow (w.heap.size + 1) 42 6 u11 os.length css.flatten):=o2.alloc _
       have hN3:w.heap.size + 1≤w3.heap.size:=by have:=HI3.out.be.size; have:=HI3.out.bs.2.2.2; omega
       have r0:=(HB3.out 0 _ rfl).c
       have r1:=(HB3.out 1 _ rfl).c
       have r2:=(HB3.out 2 _ rfl).c
       have r3:=(HB3.out 3 _ rfl).c
       have r4:=(HB3.out 4 _ rfl).c
       have r5:=(HB3.out 5 _ rfl).c
       have HQ2:Hid (∀ j u,([.int .i64 0,.slice none 0 0,.int .i64 0,.int .i64 0,.int .i64 0,.slice none 0 0]:List Value)[j]? = some u→(w3.alloc (.cells #[.int .i64 0,.slice none 0 0,.int .i64 0,.int .i64 0,.int .i64 0,.slice none 0 0] 42)).cell? ((⟨w3.heap.size,0,none⟩:Addr).add j)=some u):=by
        intro j u hj
        have e:(⟨w3.heap.size,0,none⟩:Addr).add j=⟨w3.heap.size,j,none⟩:=by unfold Addr.add; split <;> simp_all
        rw [e]
        exact (Bx.new w3 [.int .i64 0,.slice none 0 0,.int .i64 0,.int .i64 0,.int .i64 0,.slice none 0 0] 42 rfl j u hj).c
       have HQ4:Hid (os.length + 1≤maxLen):=by have:=HOL.out; show _≤_; unfold maxLen; omega
       have HQ5:Hid ((os.length + 1) * 80≤140737488355328):=by have:=HOL.out; show _≤_; omega
       have HQ6:Hid (w.heap.size + 1≤(w3.alloc (.cells #[.int .i64 0,.slice none 0 0,.int .i64 0,.int .i64 0,.int .i64 0,.slice none 0 0] 42)).heap.size):=by show _≤_; simp; omega
       have HQ7:Hid ((w3.alloc (.cells #[.int .i64 0,.slice none 0 0,.int .i64 0,.int .i64 0,.int .i64 0,.slice none 0 0] 42)).heap.size=w3.heap.size + 1):=by show _=_; simp
       clear o1 o2 o3 o4
       refine wp_region_lit ?_
       go_step
       go_step
       go_step
       go_step
       go_step
       go_step
       refine wpList_build1 rfl 28 42 _ rfl w3.heap.size rfl _ rfl Tryz.underlying28 (.agg #[.int .i64 0,.slice none 0 0,.int .i64 0,.int .i64 0,.int .i64 0,.slice none 0 0]) rfl #[.int .i64 0,.slice none 0 0,.int .i64 0,.int .i64 0,.int .i64 0,.slice none 0 0] (blt42 _ _ _ _ _ _ _ _ _ _) ?_
       refine wpList_append_lies _ rfl _ _ 28 rfl (w.heap.size + 1) 42 i4 (.agg #[.int .i64 0,.slice none 0 0,.int .i64 0,.int .i64 0,.int .i64 0,.slice none 0 0]) 6 80 Tryz.underlying28 hi4 hz40 hz41 hz42 rfl (by decide) _ _ _ rfl HO3.out ⟨w3.heap.size,0,none⟩ 1 1 [.int .i64 0,.slice none 0 0,.int .i64 0,.int .i64 0,.int .i64 0,.slice none 0 0] rfl rfl HQ2.out HON.out (by decide) HQ4.out HQ5.out HQ6.out (w3.heap.size + 1) HQ7.out ?_
       intro g9 cap w5 hown hgrow hat hglt
       have h5:Hid (HuI W0 w5 (w.heap.size + 1) w1.heap.size bw (some ⟨bw,0,none⟩) c l (K.rr rs) (.pointer none) (.slice (some ⟨g9,0,none⟩) (os.length + 1) cap) S (os ++ [⟨0,none,[]⟩]) M G):=by
        have hg3:w3.grownBy w5 u11.ownBlock:=⟨hgrow.os,hgrow.tape,hgrow.output,Nat.le_trans (by simp) hgrow.size,fun k hk hn=>(hgrow.block k (by simp; omega) hn).trans (Below.heap_alloc _ _ _ hk)⟩
        exact HI3.out.snoc HS3.out rfl css HO1.out.1 HO2.out HO1.out.2.1 HO1.out.2.2 hg3 hown (hat.imp id (fun h=>by omega))
       have HN5:=NXT.out S ⟨0,none,[]⟩ HE3.out
       have HN6:Hid _:=HN5
       clear hown hgrow hat HN5 r0 r1 r2 r3 r4 r5 HB3 HO1 HO2 HO3
       go_wp2
       refine ⟨⟨i + 1,M,G,by go_num,h1,?_⟩,by simp [intOf]; omega⟩
       rw [HN6.out]
       exact h5
      ·have h9':S.up=true:=by simpa using h9
       obtain ⟨hwe,bh,hv0,hmb,hhou,hbrk⟩:=HI2.out.up h9'
       subst hv0
       have HWE:Hid (K.Ds.wroE l (K.rr rs)=0):=hwe
       have HMB:Hid (M bh):=hmb
       clear hwe hmb hhou hbrk
       have b6:(x.act == 6)=true:=by simpa using h8
       have dk0:=HI2.out.ds.c0.c
       have b2:(x.act == 2)=false:=by simpa using (by omega:¬ x.act=2)
       have b3:(x.act == 3)=false:=by simpa using (by omega:¬ x.act=3)
       have b5:(x.act == 5)=false:=by simpa using (by omega:¬ x.act=5)
       have g0:(0:Int)≤x.n:=hn0
       have g1:¬ x.n < (S.disk.length:Int):=fun h=>hp ⟨hn0,h⟩
       go_wp2_with fail
       go_quiet (fail)
       obtain ⟨w3,hw3⟩:∃ w3,w2.drewN nq=w3:=⟨_,rfl⟩
       have hb3:Below w2.heap.size w2 w3:=hw3▸(⟨rfl,rfl,rfl,Nat.le_refl _,fun _ _=>rfl⟩:Below w2.heap.size w2 (w2.drewN nq))
       have HI3:Hid (HuI W0 w3 (w.heap.size + 1) w1.heap.size bw (some ⟨bw,0,none⟩) c l (K.rr rs) (.pointer (some ⟨bh,0,none⟩)) u11 S os M G):=HI2.out.at hb3
       have HS3:Hid (SeenM w3 G ⟨0,none,[]⟩ [.int .i64 0,.slice none 0 0,.int .i64 0,.int .i64 0,.int .i64 0,.slice none 0 0]):=seen0 w3 G 0
       have HB3:Hid (Bx w3 (wr.heap.size + 1) [.int .i64 0,.slice none 0 0,.int .i64 0,.int .i64 0,.int .i64 0,.slice none 0 0]):=HBX.out.at hb3
       have e0:=((HBS.out 0 _ rfl).at hb3).c
       go_upto_region 23 with fail
       clear hw3 hb3 e0 a0 a1 dk0
       have HE3:Hid (stepP l (K.rr rs) S x=(S,⟨0,none,[]⟩)):=by
        unfold stepP evT
        rw [Hid,if_neg (fun h=>hp ⟨h.2.1,h.2.2⟩),if_neg h6,if_neg h7,if_neg (by omega),if_neg (by omega),if_neg (by omega)]
        rfl
       have HON:Hid (∀ u∈([.int .i64 0,.slice none 0 0,.int .i64 0,.int .i64 0,.int .i64 0,.slice none 0 0]:List Value),u.oneCell' = true):=by
        intro u hu
        simp only [List.mem_cons,List.not_mem_nil,or_false] at hu
        rcases hu with rfl | rfl | rfl | rfl | rfl | rfl <;> rfl
       obtain ⟨css,o1,o2,o3,o4⟩:=HI3.out.out
       have HO1:Hid (css.length=os.length∧(∀ g9,u11.ownBlock=some g9→g9≠w1.heap.size∧g9≠bw∧¬ G g9∧¬ M g9)∧∀ (i:Nat) x cs,os[i]? = some x→css[i]? = some cs→SeenM w3 G x cs):=⟨o1,o3,o4⟩
       have HO2:Hid (w3.ownsRow (w.heap.size + 1) 42 6 u11 os.length css.flatten):=o2
       have HO3:Hid ((w3.alloc (.cells #[.int .i64 0,.slice none 0 0,.int .i64 0,.int .i64 0,.int .i64 0,.slice none 0 0] 42)).ownsRow (w.heap.size + 1) 42 6 u11 os.length css.flatten):=o2.alloc _
       have hN3:w.heap.size + 1≤w3.heap.size:=by have:=HI3.out.be.size; have:=HI3.out.bs.2.2.2; omega
       have r0:=(HB3.out 0 _ rfl).c
       have r1:=(HB3.out 1 _ rfl).c
       have r2:=(HB3.out 2 _ rfl).c
       have r3:=(HB3.out 3 _ rfl).c
       have r4:=(HB3.out 4 _ rfl).c
       have r5:=(HB3.out 5 _ rfl).c
       have HQ2:Hid (∀ j u,([.int .i64 0,.slice none 0 0,.int .i64 0,.int .i64 0,.int .i64 0,.slice none 0 0]:List Value)[j]? = some u→(w3.alloc (.cells #[.int .i64 0,.slice none 0 0,.int .i64 0,.int .i64 0,.int .i64 0,.slice none 0 0] 42)).cell? ((⟨w3.heap.size,0,none⟩:Addr).add j)=some u):=by
        intro j u hj
        have e:(⟨w3.heap.size,0,none⟩:Addr).add j=⟨w3.heap.size,j,none⟩:=by unfold Addr.add; split <;> simp_all
        rw [e]
        exact (Bx.new w3 [.int .i64 0,.slice none 0 0,.int .i64 0,.int .i64 0,.int .i64 0,.slice none 0 0] 42 rfl j u hj).c
       have HQ4:Hid (os.length + 1≤maxLen):=by have:=HOL.out; show _≤_; unfold maxLen; omega
       have HQ5:Hid ((os.length + 1) * 80≤140737488355328):=by have:=HOL.out; show _≤_; omega
       have HQ6:Hid (w.heap.size + 1≤(w3.alloc (.cells #[.int .i64 0,.slice none 0 0,.int .i64 0,.int .i64 0,.int .i64 0,.slice none 0 0] 42)).heap.size):=by show _≤_; simp; omega
       have HQ7:Hid ((w3.alloc (.cells #[.int .i64 0,.slice none 0 0,.int .i64 0,.int .i64 0,.int .i64 0,.slice none 0 0] 42)).heap.size=w3.heap.size + 1):=by show _=_; simp
       clear o1 o2 o3 o4
       refine wp_region_lit ?_
       go_step
       go_step
       go_step
       go_step
       go_step
       go_step
       refine wpList_build1 rfl 28 42 _ rfl w3.heap.size rfl _ rfl Tryz.underlying28 (.agg #[.int .i64 0,.slice none 0 0,.int .i64 0,.int .i64 0,.int .i64 0,.slice none 0 0]) rfl #[.int .i64 0,.slice none 0 0,.int .i64 0,.int .i64 0,.int .i64 0,.slice none 0 0] (blt42 _ _ _ _ _ _ _ _ _ _) ?_
       refine wpList_append_lies _ rfl _ _ 28 rfl (w.heap.size + 1) 42 i4 (.agg #[.int .i64 0,.slice none 0 0,.int .i64 0,.int .i64 0,.int .i64 0,.slice none 0 0]) 6 80 Tryz.underlying28 hi4 hz40 hz41 hz42 rfl (by decide) _ _ _ rfl HO3.out ⟨w3.heap.size,0,none⟩ 1 1 [.int .i64 0,.slice none 0 0,.int .i64 0,.int .i64 0,.int .i64 0,.slice none 0 0] rfl rfl HQ2.out HON.out (by decide) HQ4.out HQ5.out HQ6.out (w3.heap.size + 1) HQ7.out ?_
       intro g9 cap w5 hown hgrow hat hglt
       have h5:Hid (HuI W0 w5 (w.heap.size + 1) w1.heap.size bw (some ⟨bw,0,none⟩) c l (K.rr rs) (.pointer (some ⟨bh,0,none⟩)) (.slice (some ⟨g9,0,none⟩) (os.length + 1) cap) S (os ++ [⟨0,none,[]⟩]) M G):=by
        have hg3:w3.grownBy w5 u11.ownBlock:=⟨hgrow.os,hgrow.tape,hgrow.output,Nat.le_trans (by simp) hgrow.size,fun k hk hn=>(hgrow.block k (by simp; omega) hn).trans (Below.heap_alloc _ _ _ hk)⟩
        exact HI3.out.snoc HS3.out rfl css HO1.out.1 HO2.out HO1.out.2.1 HO1.out.2.2 hg3 hown (hat.imp id (fun h=>by omega))
       have HN5:=NXT.out S ⟨0,none,[]⟩ HE3.out
       have HN6:Hid _:=HN5
       clear hown hgrow hat HN5 r0 r1 r2 r3 r4 r5 HB3 HO1 HO2 HO3
       go_wp2
       refine ⟨⟨i + 1,M,G,by go_num,h1,?_⟩,by simp [intOf]; omega⟩
       rw [HN6.out]
       exact h5
     ·by_cases h9:S.up=false
      ·obtain rfl:u10=.pointer none:=HI2.out.dn h9
       have b6:(x.act == 6)=true:=by simpa using h8
       have dk0:=HI2.out.ds.c0.c
       have b2:(x.act == 2)=false:=by simpa using (by omega:¬ x.act=2)
       have b3:(x.act == 3)=false:=by simpa using (by omega:¬ x.act=3)
       have b5:(x.act == 5)=false:=by simpa using (by omega:¬ x.act=5)
       have g0:x.n < 0:=by omega
       have g1:decide ((0:Int)≤x.n)=false:=by simpa using hn0
       go_wp2_with fail
       go_quiet (fail)
       obtain ⟨w3,hw3⟩:∃ w3,w2.drewN nq=w3:=⟨_,rfl⟩
       have hb3:Below w2.heap.size w2 w3:=hw3▸(⟨rfl,rfl,rfl,Nat.le_refl _,fun _ _=>rfl⟩:Below w2.heap.size w2 (w2.drewN nq))
       have HI3:Hid (HuI W0 w3 (w.heap.size + 1) w1.heap.size bw (some ⟨bw,0,none⟩) c l (K.rr rs) (.pointer none) u11 S os M G):=HI2.out.at hb3
       have HS3:Hid (SeenM w3 G ⟨0,none,[]⟩ [.int .i64 0,.slice none 0 0,.int .i64 0,.int .i64 0,.int .i64 0,.slice none 0 0]):=seen0 w3 G 0
       have HB3:Hid (Bx w3 (wr.heap.size + 1) [.int .i64 0,.slice none 0 0,.int .i64 0,.int .i64 0,.int .i64 0,.slice none 0 0]):=HBX.out.at hb3
       have e0:=((HBS.out 0 _ rfl).at hb3).c
       go_upto_region 23 with fail
       clear hw3 hb3 e0 a0 a1 dk0
       have HE3:Hid (stepP l (K.rr rs) S x=(S,⟨0,none,[]⟩)):=by
        unfold stepP evT
        rw [Hid,if_neg (fun h=>hp ⟨h.2.1,h.2.2⟩),if_neg h6,if_neg h7,if_neg (by omega),if_neg (by omega),if_neg (by omega)]
        rfl
       have HON:Hid (∀ u∈([.int .i64 0,.slice none 0 0,.int .i64 0,.int .i64 0,.int .i64 0,.slice none 0 0]:List Value),u.oneCell' = true):=by
        intro u hu
        simp only [List.mem_cons,List.not_mem_nil,or_false] at hu
        rcases hu with rfl | rfl | rfl | rfl | rfl | rfl <;> rfl
       obtain ⟨css,o1,o2,o3,o4⟩:=HI3.out.out
       have HO1:Hid (css.length=os.length∧(∀ g9,u11.ownBlock=some g9→g9≠w1.heap.size∧g9≠bw∧¬ G g9∧¬ M g9)∧∀ (i:Nat) x cs,os[i]? = some x→css[i]? = some cs→SeenM w3 G x cs):=⟨o1,o3,o4⟩
       have HO2:Hid (w3.ownsRow (w.heap.size + 1) 42 6 u11 os.length css.flatten):=o2
       have HO3:Hid ((w3.alloc (.cells #[.int .i64 0,.slice none 0 0,.int .i64 0,.int .i64 0,.int .i64 0,.slice none 0 0] 42)).ownsRow (w.heap.size + 1) 42 6 u11 os.length css.flatten):=o2.alloc _
       have hN3:w.heap.size + 1≤w3.heap.size:=by have:=HI3.out.be.size; have:=HI3.out.bs.2.2.2; omega
       have r0:=(HB3.out 0 _ rfl).c
       have r1:=(HB3.out 1 _ rfl).c
       have r2:=(HB3.out 2 _ rfl).c
       have r3:=(HB3.out 3 _ rfl).c
       have r4:=(HB3.out 4 _ rfl).c
       have r5:=(HB3.out 5 _ rfl).c
       have HQ2:Hid (∀ j u,([.int .i64 0,.slice none 0 0,.int .i64 0,.int .i64 0,.int .i64 0,.slice none 0 0]:List Value)[j]? = some u→(w3.alloc (.cells #[.int .i64 0,.slice none 0 0,.int .i64 0,.int .i64 0,.int .i64 0,.slice none 0 0] 42)).cell? ((⟨w3.heap.size,0,none⟩:Addr).add j)=some u):=by
        intro j u hj
        have e:(⟨w3.heap.size,0,none⟩:Addr).add j=⟨w3.heap.size,j,none⟩:=by unfold Addr.add; split <;> simp_all
        rw [e]
        exact (Bx.new w3 [.int .i64 0,.slice none 0 0,.int .i64 0,.int .i64 0,.int .i64 0,.slice none 0 0] 42 rfl j u hj).c
       have HQ4:Hid (os.length + 1≤maxLen):=by have:=HOL.out; show _≤_; unfold maxLen; omega
       have HQ5:Hid ((os.length + 1) * 80≤140737488355328):=by have:=HOL.out; show _≤_; omega
       have HQ6:Hid (w.heap.size + 1≤(w3.alloc (.cells #[.int .i64 0,.slice none 0 0,.int .i64 0,.int .i64 0,.int .i64 0,.slice none 0 0] 42)).heap.size):=by show _≤_; simp; omega
       have HQ7:Hid ((w3.alloc (.cells #[.int .i64 0,.slice none 0 0,.int .i64 0,.int .i64 0,.int .i64 0,.slice none 0 0] 42)).heap.size=w3.heap.size + 1):=by show _=_; simp
       clear o1 o2 o3 o4
       refine wp_region_lit ?_
       go_step
       go_step
       go_step
       go_step
       go_step
       go_step
       refine wpList_build1 rfl 28 42 _ rfl w3.heap.size rfl _ rfl Tryz.underlying28 (.agg #[.int .i64 0,.slice none 0 0,.int .i64 0,.int .i64 0,.int .i64 0,.slice none 0 0]) rfl #[.int .i64 0,.slice none 0 0,.int .i64 0,.int .i64 0,.int .i64 0,.slice none 0 0] (blt42 _ _ _ _ _ _ _ _ _ _) ?_
       refine wpList_append_lies _ rfl _ _ 28 rfl (w.heap.size + 1) 42 i4 (.agg #[.int .i64 0,.slice none 0 0,.int .i64 0,.int .i64 0,.int .i64 0,.slice none 0 0]) 6 80 Tryz.underlying28 hi4 hz40 hz41 hz42 rfl (by decide) _ _ _ rfl HO3.out ⟨w3.heap.size,0,none⟩ 1 1 [.int .i64 0,.slice none 0 0,.int .i64 0,.int .i64 0,.int .i64 0,.slice none 0 0] rfl rfl HQ2.out HON.out (by decide) HQ4.out HQ5.out HQ6.out (w3.heap.size + 1) HQ7.out ?_
       intro g9 cap w5 hown hgrow hat hglt
       have h5:Hid (HuI W0 w5 (w.heap.size + 1) w1.heap.size bw (some ⟨bw,0,none⟩) c l (K.rr rs) (.pointer none) (.slice (some ⟨g9,0,none⟩) (os.length + 1) cap) S (os ++ [⟨0,none,[]⟩]) M G):=by
        have hg3:w3.grownBy w5 u11.ownBlock:=⟨hgrow.os,hgrow.tape,hgrow.output,Nat.le_trans (by simp) hgrow.size,fun k hk hn=>(hgrow.block k (by simp; omega) hn).trans (Below.heap_alloc _ _ _ hk)⟩
        exact HI3.out.snoc HS3.out rfl css HO1.out.1 HO2.out HO1.out.2.1 HO1.out.2.2 hg3 hown (hat.imp id (fun h=>by omega))
       have HN5:=NXT.out S ⟨0,none,[]⟩ HE3.out
       have HN6:Hid _:=HN5
       clear hown hgrow hat HN5 r0 r1 r2 r3 r4 r5 HB3 HO1 HO2 HO3
       go_wp2
       refine ⟨⟨i + 1,M,G,by go_num,h1,?_⟩,by simp [intOf]; omega⟩
       rw [HN6.out]
       exact h5
      ·have h9':S.up=true:=by simpa using h9
       obtain ⟨hwe,bh,hv0,hmb,hhou,hbrk⟩:=HI2.out.up h9'
       subst hv0
       have HWE:Hid (K.Ds.wroE l (K.rr rs)=0):=hwe
       have HMB:Hid (M bh):=hmb
       clear hwe hmb hhou hbrk
       have b6:(x.act == 6)=true:=by simpa using h8
       have dk0:=HI2.out.ds.c0.c
       have b2:(x.act == 2)=false:=by simpa using (by omega:¬ x.act=2)
       have b3:(x.act == 3)=false:=by simpa using (by omega:¬ x.act=3)
       have b5:(x.act == 5)=false:=by simpa using (by omega:¬ x.act=5)
       have g0:x.n < 0:=by omega
       have g1:decide ((0:Int)≤x.n)=false:=by simpa using hn0
       go_wp2_with fail
       go_quiet (fail)
       obtain ⟨w3,hw3⟩:∃ w3,w2.drewN nq=w3:=⟨_,rfl⟩
       have hb3:Below w2.heap.size w2 w3:=hw3▸(⟨rfl,rfl,rfl,Nat.le_refl _,fun _ _=>rfl⟩:Below w2.heap.size w2 (w2.drewN nq))
       have HI3:Hid (HuI W0 w3 (w.heap.size + 1) w1.heap.size bw (some ⟨bw,0,none⟩) c l (K.rr rs) (.pointer (some ⟨bh,0,none⟩)) u11 S os M G):=HI2.out.at hb3
       have HS3:Hid (SeenM w3 G ⟨0,none,[]⟩ [.int .i64 0,.slice none 0 0,.int .i64 0,.int .i64 0,.int .i64 0,.slice none 0 0]):=seen0 w3 G 0
       have HB3:Hid (Bx w3 (wr.heap.size + 1) [.int .i64 0,.slice none 0 0,.int .i64 0,.int .i64 0,.int .i64 0,.slice none 0 0]):=HBX.out.at hb3
       have e0:=((HBS.out 0 _ rfl).at hb3).c
       go_upto_region 23 with fail
       clear hw3 hb3 e0 a0 a1 dk0
       have HE3:Hid (stepP l (K.rr rs) S x=(S,⟨0,none,[]⟩)):=by
        unfold stepP evT
        rw [Hid,if_neg (fun h=>hp ⟨h.2.1,h.2.2⟩),if_neg h6,if_neg h7,if_neg (by omega),if_neg (by omega),if_neg (by omega)]
        rfl
       have HON:Hid (∀ u∈([.int .i64 0,.slice none 0 0,.int .i64 0,.int .i64 0,.int .i64 0,.slice none 0 0]:List Value),u.oneCell' = true):=by
        intro u hu
        simp only [List.mem_cons,List.not_mem_nil,or_false] at hu
        rcases hu with rfl | rfl | rfl | rfl | rfl | rfl <;> rfl
       obtain ⟨css,o1,o2,o3,o4⟩:=HI3.out.out
       have HO1:Hid (css.length=os.length∧(∀ g9,u11.ownBlock=some g9→g9≠w1.heap.size∧g9≠bw∧¬ G g9∧¬ M g9)∧∀ (i:Nat) x cs,os[i]? = some x→css[i]? = some cs→SeenM w3 G x cs):=⟨o1,o3,o4⟩
       have HO2:Hid (w3.ownsRow (w.heap.size + 1) 42 6 u11 os.length css.flatten):=o2
       have HO3:Hid ((w3.alloc (.cells #[.int .i64 0,.slice none 0 0,.int .i64 0,.int .i64 0,.int .i64 0,.slice none 0 0] 42)).ownsRow (w.heap.size + 1) 42 6 u11 os.length css.flatten):=o2.alloc _
       have hN3:w.heap.size + 1≤w3.heap.size:=by have:=HI3.out.be.size; have:=HI3.out.bs.2.2.2; omega
       have r0:=(HB3.out 0 _ rfl).c
       have r1:=(HB3.out 1 _ rfl).c
       have r2:=(HB3.out 2 _ rfl).c
       have r3:=(HB3.out 3 _ rfl).c
       have r4:=(HB3.out 4 _ rfl).c
       have r5:=(HB3.out 5 _ rfl).c
       have HQ2:Hid (∀ j u,([.int .i64 0,.slice none 0 0,.int .i64 0,.int .i64 0,.int .i64 0,.slice none 0 0]:List Value)[j]? = some u→(w3.alloc (.cells #[.int .i64 0,.slice none 0 0,.int .i64 0,.int .i64 0,.int .i64 0,.slice none 0 0] 42)).cell? ((⟨w3.heap.size,0,none⟩:Addr).add j)=some u):=by
        intro j u hj
        have e:(⟨w3.heap.size,0,none⟩:Addr).add j=⟨w3.heap.size,j,none⟩:=by unfold Addr.add; split <;> simp_all
        rw [e]
        exact (Bx.new w3 [.int .i64 0,.slice none 0 0,.int .i64 0,.int .i64 0,.int .i64 0,.slice none 0 0] 42 rfl j u hj).c
       have HQ4:Hid (os.length + 1≤maxLen):=by have:=HOL.out; show _≤_; unfold maxLen; omega
       have HQ5:Hid ((os.length + 1) * 80≤140737488355328):=by have:=HOL.out; show _≤_; omega
       have HQ6:Hid (w.heap.size + 1≤(w3.alloc (.cells #[.int .i64 0,.slice none 0 0,.int .i64 0,.int .i64 0,.int .i64 0,.slice none 0 0] 42)).heap.size):=by show _≤_; simp; omega
       have HQ7:Hid ((w3.alloc (.cells #[.int .i64 0,.slice none 0 0,.int .i64 0,.int .i64 0,.int .i64 0,.slice none 0 0] 42)).heap.size=w3.heap.size + 1):=by show _=_; simp
       clear o1 o2 o3 o4
       refine wp_region_lit ?_
       go_step
       go_step
       go_step
       go_step
       go_step
       go_step
       refine wpList_build1 rfl 28 42 _ rfl w3.heap.size rfl _ rfl Tryz.underlying28 (.agg #[.int .i64 0,.slice none 0 0,.int .i64 0,.int .i64 0,.int .i64 0,.slice none 0 0]) rfl #[.int .i64 0,.slice none 0 0,.int .i64 0,.int .i64 0,.int .i64 0,.slice none 0 0] (blt42 _ _ _ _ _ _ _ _ _ _) ?_
       refine wpList_append_lies _ rfl _ _ 28 rfl (w.heap.size + 1) 42 i4 (.agg #[.int .i64 0,.slice none 0 0,.int .i64 0,.int .i64 0,.int .i64 0,.slice none 0 0]) 6 80 Tryz.underlying28 hi4 hz40 hz41 hz42 rfl (by decide) _ _ _ rfl HO3.out ⟨w3.heap.size,0,none⟩ 1 1 [.int .i64 0,.slice none 0 0,.int .i64 0,.int .i64 0,.int .i64 0,.slice none 0 0] rfl rfl HQ2.out HON.out (by decide) HQ4.out HQ5.out HQ6.out (w3.heap.size + 1) HQ7.out ?_
       intro g9 cap w5 hown hgrow hat hglt
       have h5:Hid (HuI W0 w5 (w.heap.size + 1) w1.heap.size bw (some ⟨bw,0,none⟩) c l (K.rr rs) (.pointer (some ⟨bh,0,none⟩)) (.slice (some ⟨g9,0,none⟩) (os.length + 1) cap) S (os ++ [⟨0,none,[]⟩]) M G):=by
        have hg3:w3.grownBy w5 u11.ownBlock:=⟨hgrow.os,hgrow.tape,hgrow.output,Nat.le_trans (by simp) hgrow.size,fun k hk hn=>(hgrow.block k (by simp; omega) hn).trans (Below.heap_alloc _ _ _ hk)⟩
        exact HI3.out.snoc HS3.out rfl css HO1.out.1 HO2.out HO1.out.2.1 HO1.out.2.2 hg3 hown (hat.imp id (fun h=>by omega))
       have HN5:=NXT.out S ⟨0,none,[]⟩ HE3.out
       have HN6:Hid _:=HN5
       clear hown hgrow hat HN5 r0 r1 r2 r3 r4 r5 HB3 HO1 HO2 HO3
       go_wp2
       refine ⟨⟨i + 1,M,G,by go_num,h1,?_⟩,by simp [intOf]; omega⟩
       rw [HN6.out]
       exact h5
   by_cases h9:S.up=false
   ·as_aux_lemma =>
    obtain rfl:u10=.pointer none:=HI2.out.dn h9
    have b6:(x.act == 6)=false:=by simpa using h8
    have dk0:=HI2.out.ds.c0.c
    go_wp2_with fail
    go_quiet (fail)
    obtain ⟨w3,hw3⟩:∃ w3,w2.drewN nq=w3:=⟨_,rfl⟩
    have hb3:Below w2.heap.size w2 w3:=hw3▸(⟨rfl,rfl,rfl,Nat.le_refl _,fun _ _=>rfl⟩:Below w2.heap.size w2 (w2.drewN nq))
    have HI3:Hid (HuI W0 w3 (w.heap.size + 1) w1.heap.size bw (some ⟨bw,0,none⟩) c l (K.rr rs) (.pointer none) u11 S os M G):=HI2.out.at hb3
    have HS3:Hid (SeenM w3 G ⟨0,none,[]⟩ [.int .i64 0,.slice none 0 0,.int .i64 0,.int .i64 0,.int .i64 0,.slice none 0 0]):=seen0 w3 G 0
    have HB3:Hid (Bx w3 (wr.heap.size + 1) [.int .i64 0,.slice none 0 0,.int .i64 0,.int .i64 0,.int .i64 0,.slice none 0 0]):=HBX.out.at hb3
    have e0:=((HBS.out 0 _ rfl).at hb3).c
    go_upto_region 23 with fail
    clear hw3 hb3 e0 a0 a1 dk0
    have HE3:Hid (stepP l (K.rr rs) S x=(S,⟨0,none,[]⟩)):=by
     unfold stepP evT
     rw [Hid,if_neg (fun h=>h8 h.1),if_neg h6,if_neg h7]
     split
     ·simp [stepH,h9]
     ·split
      ·simp [askE,stepH,h9]
      ·split
       ·simp [stepH,h9]
       ·rfl
    have HON:Hid (∀ u∈([.int .i64 0,.slice none 0 0,.int .i64 0,.int .i64 0,.int .i64 0,.slice none 0 0]:List Value),u.oneCell' = true):=by
     intro u hu
     simp only [List.mem_cons,List.not_mem_nil,or_false] at hu
     rcases hu with rfl | rfl | rfl | rfl | rfl | rfl <;> rfl
    obtain ⟨css,o1,o2,o3,o4⟩:=HI3.out.out
    have HO1:Hid (css.length=os.length∧(∀ g9,u11.ownBlock=some g9→g9≠w1.heap.size∧g9≠bw∧¬ G g9∧¬ M g9)∧∀ (i:Nat) x cs,os[i]? = some x→css[i]? = some cs→SeenM w3 G x cs):=⟨o1,o3,o4⟩
    have HO2:Hid (w3.ownsRow (w.heap.size + 1) 42 6 u11 os.length css.flatten):=o2
    have HO3:Hid ((w3.alloc (.cells #[.int .i64 0,.slice none 0 0,.int .i64 0,.int .i64 0,.int .i64 0,.slice none 0 0] 42)).ownsRow (w.heap.size + 1) 42 6 u11 os.length css.flatten):=o2.alloc _
    have hN3:w.heap.size + 1≤w3.heap.size:=by have:=HI3.out.be.size; have:=HI3.out.bs.2.2.2; omega
    have r0:=(HB3.out 0 _ rfl).c
    have r1:=(HB3.out 1 _ rfl).c
    have r2:=(HB3.out 2 _ rfl).c
    have r3:=(HB3.out 3 _ rfl).c
    have r4:=(HB3.out 4 _ rfl).c
    have r5:=(HB3.out 5 _ rfl).c
    have HQ2:Hid (∀ j u,([.int .i64 0,.slice none 0 0,.int .i64 0,.int .i64 0,.int .i64 0,.slice none 0 0]:List Value)[j]? = some u→(w3.alloc (.cells #[.int .i64 0,.slice none 0 0,.int .i64 0,.int .i64 0,.int .i64 0,.slice none 0 0] 42)).cell? ((⟨w3.heap.size,0,none⟩:Addr).add j)=some u):=by
     intro j u hj
     have e:(⟨w3.heap.size,0,none⟩:Addr).add j=⟨w3.heap.size,j,none⟩:=by unfold Addr.add; split <;> simp_all
     rw [e]
     exact (Bx.new w3 [.int .i64 0,.slice none 0 0,.int .i64 0,.int .i64 0,.int .i64 0,.slice none 0 0] 42 rfl j u hj).c
    have HQ4:Hid (os.length + 1≤maxLen):=by have:=HOL.out; show _≤_; unfold maxLen; omega
    have HQ5:Hid ((os.length + 1) * 80≤140737488355328):=by have:=HOL.out; show _≤_; omega
    have HQ6:Hid (w.heap.size + 1≤(w3.alloc (.cells #[.int .i64 0,.slice none 0 0,.int .i64 0,.int .i64 0,.int .i64 0,.slice none 0 0] 42)).heap.size):=by show _≤_; simp; omega
    have HQ7:Hid ((w3.alloc (.cells #[.int .i64 0,.slice none 0 0,.int .i64 0,.int .i64 0,.int .i64 0,.slice none 0 0] 42)).heap.size=w3.heap.size + 1):=by show _=_; simp
    clear o1 o2 o3 o4
    refine wp_region_lit ?_
    go_step
    go_step
    go_step
    go_step
    go_step
    go_step
    refine wpList_build1 rfl 28 42 _ rfl w3.heap.size rfl _ rfl Tryz.underlying28 (.agg #[.int .i64 0,.slice none 0 0,.int .i64 0,.int .i64 0,.int .i64 0,.slice none 0 0]) rfl #[.int .i64 0,.slice none 0 0,.int .i64 0,.int .i64 0,.int .i64 0,.slice none 0 0] (blt42 _ _ _ _ _ _ _ _ _ _) ?_
    refine wpList_append_lies _ rfl _ _ 28 rfl (w.heap.size + 1) 42 i4 (.agg #[.int .i64 0,.slice none 0 0,.int .i64 0,.int .i64 0,.int .i64 0,.slice none 0 0]) 6 80 Tryz.underlying28 hi4 hz40 hz41 hz42 rfl (by decide) _ _ _ rfl HO3.out ⟨w3.heap.size,0,none⟩ 1 1 [.int .i64 0,.slice none 0 0,.int .i64 0,.int .i64 0,.int .i64 0,.slice none 0 0] rfl rfl HQ2.out HON.out (by decide) HQ4.out HQ5.out HQ6.out (w3.heap.size + 1) HQ7.out ?_
    intro g9 cap w5 hown hgrow hat hglt
    have h5:Hid (HuI W0 w5 (w.heap.size + 1) w1.heap.size bw (some ⟨bw,0,none⟩) c l (K.rr rs) (.pointer none) (.slice (some ⟨g9,0,none⟩) (os.length + 1) cap) S (os ++ [⟨0,none,[]⟩]) M G):=by
     have hg3:w3.grownBy w5 u11.ownBlock:=⟨hgrow.os,hgrow.tape,hgrow.output,Nat.le_trans (by simp) hgrow.size,fun k hk hn=>(hgrow.block k (by simp; omega) hn).trans (Below.heap_alloc _ _ _ hk)⟩
     exact HI3.out.snoc HS3.out rfl css HO1.out.1 HO2.out HO1.out.2.1 HO1.out.2.2 hg3 hown (hat.imp id (fun h=>by omega))
    have HN5:=NXT.out S ⟨0,none,[]⟩ HE3.out
    have HN6:Hid _:=HN5
    clear hown hgrow hat HN5 r0 r1 r2 r3 r4 r5 HB3 HO1 HO2 HO3
    go_wp2
    refine ⟨⟨i + 1,M,G,by go_num,h1,?_⟩,by simp [intOf]; omega⟩
    rw [HN6.out]
    exact h5
   have h9':S.up=true:=by simpa using h9
   obtain ⟨hwe,bh,hv0,hmb,hhou,hbrk⟩:=HI2.out.up h9'
   subst hv0
   have HWE:Hid (K.Ds.wroE l (K.rr rs)=0):=hwe
   have HMB:Hid (M bh):=hmb
   by_cases h2:x.act=2
   ·as_aux_lemma =>
    have b6:(x.act == 6)=false:=by simpa using h8
    have dk0:=HI2.out.ds.c0.c
    go_wp2_with fail
    go_quiet (fail)
    obtain ⟨w4,hw4⟩:∃ w4,w2.drewN nq=w4:=⟨_,rfl⟩
    have hb4:Below w2.heap.size w2 w4:=hw4▸(⟨rfl,rfl,rfl,Nat.le_refl _,fun _ _=>rfl⟩:Below w2.heap.size w2 (w2.drewN nq))
    have HI4:Hid (HuI W0 w4 (w.heap.size + 1) w1.heap.size bw (some ⟨bw,0,none⟩) c l (K.rr rs) (.pointer (some ⟨bh,0,none⟩)) u11 S os M G):=HI2.out.at hb4
    have HBX4:Hid (Bx w4 (wr.heap.size + 1) [.int .i64 0,.slice none 0 0,.int .i64 0,.int .i64 0,.int .i64 0,.slice none 0 0]):=HBX.out.at hb4
    have HBS4:Hid (Bx w4 wr.heap.size [.int .i64 x.act,.int .i64 x.n,.string x.nm,.int .i64 x.bu,.int .i64 x.bd,.string x.pn,.int .i64 kk,.string kc,.int .i64 kl,.int .i64 kh,.slice ka kn kd,.slice kb km kp,.int .i64 x.u,.int .i64 x.d,.int .i64 x.lo,.int .i64 x.hi,.slice xa x.bits.length xc,.int .i64 x.word]):=HBS.out.at hb4
    have HW4:Hid (Below wr.heap.size wr w4):=bt HW2.out hb4
    have hs4:wr.heap.size + 2≤w4.heap.size:=by have:=hb4.size; omega
    have e0:=(HBS4.out 0 _ rfl).c
    have HMM:Hid (¬ M w1.heap.size∧¬ M bw):=⟨fun m=>(HI4.out.mm _ m).2.2.1 rfl,fun m=>(HI4.out.mm _ m).2.2.2.1 rfl⟩
    have HNB:Hid (¬ (M (wr.heap.size + 1)∨wr.heap.size + 1=w1.heap.size∨wr.heap.size + 1=bw)):=fun h=>by have:=HNE.out _ h; omega
    clear hb4 a0 a1 dk0
    have b2:(x.act == 2)=true:=by simpa using h2
    have e2:=(HBS4.out 2 _ rfl).c
    have e3:=(HBS4.out 3 _ rfl).c
    have e4:=(HBS4.out 4 _ rfl).c
    obtain ⟨_,bh',hv1,hmb',hhou',hbrk'⟩:=HI4.out.up h9'
    cases hv1
    cases hbk:S.brk with
    | false =>
     as_aux_lemma =>
     obtain ⟨s',er,hdo⟩:∃ s' er,doesT S (1,x.nm,0,x.bu,x.bd)=(s',er):=⟨_,_,rfl⟩
     have kP:=K.P.purse_any M bh w1.heap.size bw (some ⟨bw,0,none⟩) c l (K.rr rs) S.disk S.left S.done x.nm x.bu x.bd w4 (hhou' hbk) HI4.out.ds HMM.out HI4.out.bs.2.2.1 HI4.out.i64 HX.out.2.2.2.2.2.1 s' er (by rw [st_eta h9' hbk]; exact hdo)
     have HDO:Hid (doesT S (1,x.nm,0,x.bu,x.bd)=(s',er)):=hdo
     have HBK:Hid (S.brk=false):=hbk
     clear hdo hhou' hbrk' hmb' hbk
     go_wp2_with fail
     refine kP.mono ?_
     rintro x5 w' ⟨rfl,hk5,hd5,hh5,hc5⟩
     have HK5:Hid (Keeps w4 w' (fun k=>M k∨k=w1.heap.size∨k=bw)):=hk5
     have HD5:Hid (DskM w' w1.heap.size bw (some ⟨bw,0,none⟩) c s'.disk s'.left):=hd5
     have HH5:Hid ((s'.brk=false→HouM w' (fun k=>M k∨w4.heap.size≤k∧k < w'.heap.size) bh w1.heap.size l (K.rr rs) s'.done)∧(s'.brk=true→Cl w' bh 5 (.bool true))):=⟨hh5,hc5⟩
     obtain ⟨w3,hw3⟩:∃ w3,w'.setCell ⟨wr.heap.size + 1,0,none⟩ (.int .i64 er)=w3:=⟨_,rfl⟩
     have HBw:Bx w' (wr.heap.size + 1) [.int .i64 0,.slice none 0 0,.int .i64 0,.int .i64 0,.int .i64 0,.slice none 0 0]:=HBX4.out.kp hk5 HNB.out
     have y0:=(HBw 0 _ rfl).c
     have y1:=(HBw 0 _ rfl).f
     have HB3:Hid (Bx w3 (wr.heap.size + 1) [.int .i64 er,.slice none 0 0,.int .i64 0,.int .i64 0,.int .i64 0,.slice none 0 0]):=hw3▸HBw.set (i:=0) (by simp) _
     have HW3:Hid (Keeps w' w3 (fun k=>k=wr.heap.size + 1)):=hw3▸keeps_set (keeps_refl w' (fun k=>k=wr.heap.size + 1)) (p:=⟨wr.heap.size + 1,0,none⟩) (.inl rfl) _
     clear HBw hk5 hd5 hh5 hc5 kP
     go_upto_region 23 with fail
     clear hw3 y0 y1 e0 e2 e3 e4 b1 b4 b6 b2
     have HI3:Hid (HuI W0 w3 (w.heap.size + 1) w1.heap.size bw (some ⟨bw,0,none⟩) c l (K.rr rs) (.pointer (some ⟨bh,0,none⟩)) u11 s' os (fun k=>M k∨w4.heap.size≤k∧k < w'.heap.size) G):=by
      have q1:=does_64 (e:=(1,x.nm,0,x.bu,x.bd)) HI1.out.w64 HI1.out.i64
      have q2:=does_up (s:=S) (e:=(1,x.nm,0,x.bu,x.bd))
      rw [HDO.out] at q1 q2
      have q3:=HK5.out.size
      exact HI1.out.call (s':=s') ((keeps_below HW4.out).trans HK5.out) HD5.out q1.1 q1.2 (fun k=>M k∨w4.heap.size≤k∧k < w'.heap.size) G (fun _ m=>m.imp id (fun m=>⟨by omega,m.2⟩)) (fun _ m=>.inl m) (fun _ m=>m) (fun h=>by rw [q2,h9'] at h; cases h) (fun _=>⟨HWE.out,bh,rfl,.inl HMB.out,HH5.out.1,HH5.out.2⟩) HW3.out
     have HS3:Hid (SeenM w3 G ⟨er,none,[]⟩ [.int .i64 er,.slice none 0 0,.int .i64 0,.int .i64 0,.int .i64 0,.slice none 0 0]):=seen0 w3 G er
     have HE3:Hid (stepP l (K.rr rs) S x=(s',⟨er,none,[]⟩)):=by
      unfold stepP evT
      rw [Hid,if_neg (fun h=>h8 h.1),if_neg h6,if_neg h7,if_pos h2]
      simp [stepH,h9',HBK.out,HDO.out]
     have HON:Hid (∀ u∈([.int .i64 er,.slice none 0 0,.int .i64 0,.int .i64 0,.int .i64 0,.slice none 0 0]:List Value),u.oneCell' = true):=by
      intro u hu
      simp only [List.mem_cons,List.not_mem_nil,or_false] at hu
      rcases hu with rfl | rfl | rfl | rfl | rfl | rfl <;> rfl
     obtain ⟨css,o1,o2,o3,o4⟩:=HI3.out.out
     have HO1:Hid (css.length=os.length∧(∀ g9,u11.ownBlock=some g9→g9≠w1.heap.size∧g9≠bw∧¬ G g9∧¬ (fun k=>M k∨w4.heap.size≤k∧k < w'.heap.size) g9)∧∀ (i:Nat) x cs,os[i]? = some x→css[i]? = some cs→SeenM w3 G x cs):=⟨o1,o3,o4⟩
     have HO2:Hid (w3.ownsRow (w.heap.size + 1) 42 6 u11 os.length css.flatten):=o2
     have HO3:Hid ((w3.alloc (.cells #[.int .i64 er,.slice none 0 0,.int .i64 0,.int .i64 0,.int .i64 0,.slice none 0 0] 42)).ownsRow (w.heap.size + 1) 42 6 u11 os.length css.flatten):=o2.alloc _
     have hN3:w.heap.size + 1≤w3.heap.size:=by have:=HI3.out.be.size; have:=HI3.out.bs.2.2.2; omega
     have r0:=(HB3.out 0 _ rfl).c
     have r1:=(HB3.out 1 _ rfl).c
     have r2:=(HB3.out 2 _ rfl).c
     have r3:=(HB3.out 3 _ rfl).c
     have r4:=(HB3.out 4 _ rfl).c
     have r5:=(HB3.out 5 _ rfl).c
     have HQ2:Hid (∀ j u,([.int .i64 er,.slice none 0 0,.int .i64 0,.int .i64 0,.int .i64 0,.slice none 0 0]:List Value)[j]? = some u→(w3.alloc (.cells #[.int .i64 er,.slice none 0 0,.int .i64 0,.int .i64 0,.int .i64 0,.slice none 0 0] 42)).cell? ((⟨w3.heap.size,0,none⟩:Addr).add j)=some u):=by
      intro j u hj
      have e:(⟨w3.heap.size,0,none⟩:Addr).add j=⟨w3.heap.size,j,none⟩:=by unfold Addr.add; split <;> simp_all
      rw [e]
      exact (Bx.new w3 [.int .i64 er,.slice none 0 0,.int .i64 0,.int .i64 0,.int .i64 0,.slice none 0 0] 42 rfl j u hj).c
     have HQ4:Hid (os.length + 1≤maxLen):=by have:=HOL.out; show _≤_; unfold maxLen; omega
     have HQ5:Hid ((os.length + 1) * 80≤140737488355328):=by have:=HOL.out; show _≤_; omega
     have HQ6:Hid (w.heap.size + 1≤(w3.alloc (.cells #[.int .i64 er,.slice none 0 0,.int .i64 0,.int .i64 0,.int .i64 0,.slice none 0 0] 42)).heap.size):=by show _≤_; simp; omega
     have HQ7:Hid ((w3.alloc (.cells #[.int .i64 er,.slice none 0 0,.int .i64 0,.int .i64 0,.int .i64 0,.slice none 0 0] 42)).heap.size=w3.heap.size + 1):=by show _=_; simp
     clear o1 o2 o3 o4
     refine wp_region_lit ?_
     go_step
     go_step
     go_step
     go_step
     go_step
     go_step
     refine wpList_build1 rfl 28 42 _ rfl w3.heap.size rfl _ rfl Tryz.underlying28 (.agg #[.int .i64 er,.slice none 0 0,.int .i64 0,.int .i64 0,.int .i64 0,.slice none 0 0]) rfl #[.int .i64 er,.slice none 0 0,.int .i64 0,.int .i64 0,.int .i64 0,.slice none 0 0] (blt42 _ _ _ _ _ _ _ _ _ _) ?_
     refine wpList_append_lies _ rfl _ _ 28 rfl (w.heap.size + 1) 42 i4 (.agg #[.int .i64 0,.slice none 0 0,.int .i64 0,.int .i64 0,.int .i64 0,.slice none 0 0]) 6 80 Tryz.underlying28 hi4 hz40 hz41 hz42 rfl (by decide) _ _ _ rfl HO3.out ⟨w3.heap.size,0,none⟩ 1 1 [.int .i64 er,.slice none 0 0,.int .i64 0,.int .i64 0,.int .i64 0,.slice none 0 0] rfl rfl HQ2.out HON.out (by decide) HQ4.out HQ5.out HQ6.out (w3.heap.size + 1) HQ7.out ?_
     intro g9 cap w5 hown hgrow hat hglt
     have h5:Hid (HuI W0 w5 (w.heap.size + 1) w1.heap.size bw (some ⟨bw,0,none⟩) c l (K.rr rs) (.pointer (some ⟨bh,0,none⟩)) (.slice (some ⟨g9,0,none⟩) (os.length + 1) cap) s' (os ++ [⟨er,none,[]⟩]) (fun k=>M k∨w4.heap.size≤k∧k < w'.heap.size) G):=by
      have hg3:w3.grownBy w5 u11.ownBlock:=⟨hgrow.os,hgrow.tape,hgrow.output,Nat.le_trans (by simp) hgrow.size,fun k hk hn=>(hgrow.block k (by simp; omega) hn).trans (Below.heap_alloc _ _ _ hk)⟩
      exact HI3.out.snoc HS3.out rfl css HO1.out.1 HO2.out HO1.out.2.1 HO1.out.2.2 hg3 hown (hat.imp id (fun h=>by omega))
     have HN5:=NXT.out s' ⟨er,none,[]⟩ HE3.out
     have HN6:Hid _:=HN5
     clear hown hgrow hat HN5 r0 r1 r2 r3 r4 r5 HB3 HO1 HO2 HO3
     go_wp2
     refine ⟨⟨i + 1,(fun k=>M k∨w4.heap.size≤k∧k < w'.heap.size),G,by go_num,h1,?_⟩,by simp [intOf]; omega⟩
     rw [HN6.out]
     exact h5
    | true =>
     as_aux_lemma =>
     have kP:=K.P.purse_brk bh x.nm x.bu x.bd w4 (hbrk' hbk)
     have HBK:Hid (S.brk=true):=hbk
     clear hhou' hbrk' hmb' hbk
     go_wp2_with fail
     refine kP.mono ?_
     rintro x5 w' ⟨rfl,hb5⟩
     have HB5:Hid (Below w4.heap.size w4 w'):=hb5
     obtain ⟨w3,hw3⟩:∃ w3,w'.setCell ⟨wr.heap.size + 1,0,none⟩ (.int .i64 9)=w3:=⟨_,rfl⟩
     have HBw:Bx w' (wr.heap.size + 1) [.int .i64 0,.slice none 0 0,.int .i64 0,.int .i64 0,.int .i64 0,.slice none 0 0]:=HBX4.out.at hb5
     have y0:=(HBw 0 _ rfl).c
     have y1:=(HBw 0 _ rfl).f
     have HB3:Hid (Bx w3 (wr.heap.size + 1) [.int .i64 9,.slice none 0 0,.int .i64 0,.int .i64 0,.int .i64 0,.slice none 0 0]):=hw3▸HBw.set (i:=0) (by simp) _
     have HW3:Hid (Keeps w' w3 (fun k=>k=wr.heap.size + 1)):=hw3▸keeps_set (keeps_refl w' (fun k=>k=wr.heap.size + 1)) (p:=⟨wr.heap.size + 1,0,none⟩) (.inl rfl) _
     clear HBw hb5 kP
     go_upto_region 23 with fail
     clear hw3 y0 y1 e0 e2 e3 e4 b1 b4 b6 b2
     have HI3:Hid (HuI W0 w3 (w.heap.size + 1) w1.heap.size bw (some ⟨bw,0,none⟩) c l (K.rr rs) (.pointer (some ⟨bh,0,none⟩)) u11 S os M G) :=
      HI1.out.call (s':=S) (keeps_below (bt HW4.out HB5.out)) (HI4.out.ds.at HB5.out) HI1.out.w64 HI1.out.i64 M G (fun _ m=>.inl m) (fun _ m=>.inl m) (fun _ m=>m) (fun h=>by rw [h9'] at h; cases h) (fun u=>by
       obtain ⟨e,bh,q1,q2,q3,q4⟩:=HI4.out.up u
       exact ⟨e,bh,q1,q2,fun x=>(q3 x).kp (K:=fun _=>False) (keeps_below HB5.out) (fun _ _ h=>h),fun x=>(q4 x).at HB5.out⟩) HW3.out
     have HS3:Hid (SeenM w3 G ⟨9,none,[]⟩ [.int .i64 9,.slice none 0 0,.int .i64 0,.int .i64 0,.int .i64 0,.slice none 0 0]):=seen0 w3 G 9
     have HE3:Hid (stepP l (K.rr rs) S x=(S,⟨9,none,[]⟩)):=by
      unfold stepP evT
      rw [Hid,if_neg (fun h=>h8 h.1),if_neg h6,if_neg h7,if_pos h2]
      simp [stepH,h9',HBK.out]
     have HON:Hid (∀ u∈([.int .i64 9,.slice none 0 0,.int .i64 0,.int .i64 0,.int .i64 0,.slice none 0 0]:List Value),u.oneCell' = true):=by
      intro u hu
      simp only [List.mem_cons,List.not_mem_nil,or_false] at hu
      rcases hu with rfl | rfl | rfl | rfl | rfl | rfl <;> rfl
     obtain ⟨css,o1,o2,o3,o4⟩:=HI3.out.out
     have HO1:Hid (css.length=os.length∧(∀ g9,u11.ownBlock=some g9→g9≠w1.heap.size∧g9≠bw∧¬ G g9∧¬ M g9)∧∀ (i:Nat) x cs,os[i]? = some x→css[i]? = some cs→SeenM w3 G x cs):=⟨o1,o3,o4⟩
     have HO2:Hid (w3.ownsRow (w.heap.size + 1) 42 6 u11 os.length css.flatten):=o2
     have HO3:Hid ((w3.alloc (.cells #[.int .i64 9,.slice none 0 0,.int .i64 0,.int .i64 0,.int .i64 0,.slice none 0 0] 42)).ownsRow (w.heap.size + 1) 42 6 u11 os.length css.flatten):=o2.alloc _
     have hN3:w.heap.size + 1≤w3.heap.size:=by have:=HI3.out.be.size; have:=HI3.out.bs.2.2.2; omega
     have r0:=(HB3.out 0 _ rfl).c
     have r1:=(HB3.out 1 _ rfl).c
     have r2:=(HB3.out 2 _ rfl).c
     have r3:=(HB3.out 3 _ rfl).c
     have r4:=(HB3.out 4 _ rfl).c
     have r5:=(HB3.out 5 _ rfl).c
     have HQ2:Hid (∀ j u,([.int .i64 9,.slice none 0 0,.int .i64 0,.int .i64 0,.int .i64 0,.slice none 0 0]:List Value)[j]? = some u→(w3.alloc (.cells #[.int .i64 9,.slice none 0 0,.int .i64 0,.int .i64 0,.int .i64 0,.slice none 0 0] 42)).cell? ((⟨w3.heap.size,0,none⟩:Addr).add j)=some u):=by
      intro j u hj
      have e:(⟨w3.heap.size,0,none⟩:Addr).add j=⟨w3.heap.size,j,none⟩:=by unfold Addr.add; split <;> simp_all
      rw [e]
      exact (Bx.new w3 [.int .i64 9,.slice none 0 0,.int .i64 0,.int .i64 0,.int .i64 0,.slice none 0 0] 42 rfl j u hj).c
     have HQ4:Hid (os.length + 1≤maxLen):=by have:=HOL.out; show _≤_; unfold maxLen; omega
     have HQ5:Hid ((os.length + 1) * 80≤140737488355328):=by have:=HOL.out; show _≤_; omega
     have HQ6:Hid (w.heap.size + 1≤(w3.alloc (.cells #[.int .i64 9,.slice none 0 0,.int .i64 0,.int .i64 0,.int .i64 0,.slice none 0 0] 42)).heap.size):=by show _≤_; simp; omega
     have HQ7:Hid ((w3.alloc (.cells #[.int .i64 9,.slice none 0 0,.int .i64 0,.int .i64 0,.int .i64 0,.slice none 0 0] 42)).heap.size=w3.heap.size + 1):=by show _=_; simp
     clear o1 o2 o3 o4
     refine wp_region_lit ?_
     go_step
     go_step
     go_step
     go_step
     go_step
     go_step
     refine wpList_build1 rfl 28 42 _ rfl w3.heap.size rfl _ rfl Tryz.underlying28 (.agg #[.int .i64 9,.slice none 0 0,.int .i64 0,.int .i64 0,.int .i64 0,.slice none 0 0]) rfl #[.int .i64 9,.slice none 0 0,.int .i64 0,.int .i64 0,.int .i64 0,.slice none 0 0] (blt42 _ _ _ _ _ _ _ _ _ _) ?_
     refine wpList_append_lies _ rfl _ _ 28 rfl (w.heap.size + 1) 42 i4 (.agg #[.int .i64 0,.slice none 0 0,.int .i64 0,.int .i64 0,.int .i64 0,.slice none 0 0]) 6 80 Tryz.underlying28 hi4 hz40 hz41 hz42 rfl (by decide) _ _ _ rfl HO3.out ⟨w3.heap.size,0,none⟩ 1 1 [.int .i64 9,.slice none 0 0,.int .i64 0,.int .i64 0,.int .i64 0,.slice none 0 0] rfl rfl HQ2.out HON.out (by decide) HQ4.out HQ5.out HQ6.out (w3.heap.size + 1) HQ7.out ?_
     intro g9 cap w5 hown hgrow hat hglt
     have h5:Hid (HuI W0 w5 (w.heap.size + 1) w1.heap.size bw (some ⟨bw,0,none⟩) c l (K.rr rs) (.pointer (some ⟨bh,0,none⟩)) (.slice (some ⟨g9,0,none⟩) (os.length + 1) cap) S (os ++ [⟨9,none,[]⟩]) M G):=by
      have hg3:w3.grownBy w5 u11.ownBlock:=⟨hgrow.os,hgrow.tape,hgrow.output,Nat.le_trans (by simp) hgrow.size,fun k hk hn=>(hgrow.block k (by simp; omega) hn).trans (Below.heap_alloc _ _ _ hk)⟩
      exact HI3.out.snoc HS3.out rfl css HO1.out.1 HO2.out HO1.out.2.1 HO1.out.2.2 hg3 hown (hat.imp id (fun h=>by omega))
     have HN5:=NXT.out S ⟨9,none,[]⟩ HE3.out
     have HN6:Hid _:=HN5
     clear hown hgrow hat HN5 r0 r1 r2 r3 r4 r5 HB3 HO1 HO2 HO3
     go_wp2
     refine ⟨⟨i + 1,M,G,by go_num,h1,?_⟩,by simp [intOf]; omega⟩
     rw [HN6.out]
     exact h5
   by_cases h3:x.act=3
   ·as_aux_lemma =>
    have b6:(x.act == 6)=false:=by simpa using h8
    have dk0:=HI2.out.ds.c0.c
    go_wp2_with fail
    go_quiet (fail)
    obtain ⟨w4,hw4⟩:∃ w4,w2.drewN nq=w4:=⟨_,rfl⟩
    have hb4:Below w2.heap.size w2 w4:=hw4▸(⟨rfl,rfl,rfl,Nat.le_refl _,fun _ _=>rfl⟩:Below w2.heap.size w2 (w2.drewN nq))
    have HI4:Hid (HuI W0 w4 (w.heap.size + 1) w1.heap.size bw (some ⟨bw,0,none⟩) c l (K.rr rs) (.pointer (some ⟨bh,0,none⟩)) u11 S os M G):=HI2.out.at hb4
    have HBX4:Hid (Bx w4 (wr.heap.size + 1) [.int .i64 0,.slice none 0 0,.int .i64 0,.int .i64 0,.int .i64 0,.slice none 0 0]):=HBX.out.at hb4
    have HBS4:Hid (Bx w4 wr.heap.size [.int .i64 x.act,.int .i64 x.n,.string x.nm,.int .i64 x.bu,.int .i64 x.bd,.string x.pn,.int .i64 kk,.string kc,.int .i64 kl,.int .i64 kh,.slice ka kn kd,.slice kb km kp,.int .i64 x.u,.int .i64 x.d,.int .i64 x.lo,.int .i64 x.hi,.slice xa x.bits.length xc,.int .i64 x.word]):=HBS.out.at hb4
    have HW4:Hid (Below wr.heap.size wr w4):=bt HW2.out hb4
    have hs4:wr.heap.size + 2≤w4.heap.size:=by have:=hb4.size; omega
    have e0:=(HBS4.out 0 _ rfl).c
    have HMM:Hid (¬ M w1.heap.size∧¬ M bw):=⟨fun m=>(HI4.out.mm _ m).2.2.1 rfl,fun m=>(HI4.out.mm _ m).2.2.2.1 rfl⟩
    have HNB:Hid (¬ (M (wr.heap.size + 1)∨wr.heap.size + 1=w1.heap.size∨wr.heap.size + 1=bw)):=fun h=>by have:=HNE.out _ h; omega
    clear hb4 a0 a1 dk0
    have b2:(x.act == 2)=false:=by simpa using h2
    have b3:(x.act == 3)=true:=by simpa using h3
    obtain ⟨_,bh',hv1,hmb',hhou',hbrk'⟩:=HI4.out.up h9'
    cases hv1
    have HRA:Hid (w4.rangeAt wr.heap.size 5 [.string x.pn,.int .i64 kk,.string kc,.int .i64 kl,.int .i64 kh,.slice ka kn kd,.slice kb km kp,.int .i64 x.u,.int .i64 x.d,.int .i64 x.lo,.int .i64 x.hi,.slice xa x.bits.length xc]):=fun j v hj=>by
     have e:([.string x.pn,.int .i64 kk,.string kc,.int .i64 kl,.int .i64 kh,.slice ka kn kd,.slice kb km kp,.int .i64 x.u,.int .i64 x.d,.int .i64 x.lo,.int .i64 x.hi,.slice xa x.bits.length xc]:List Value)=(([.int .i64 x.act,.int .i64 x.n,.string x.nm,.int .i64 x.bu,.int .i64 x.bd,.string x.pn,.int .i64 kk,.string kc,.int .i64 kl,.int .i64 kh,.slice ka kn kd,.slice kb km kp,.int .i64 x.u,.int .i64 x.d,.int .i64 x.lo,.int .i64 x.hi,.slice xa x.bits.length xc,.int .i64 x.word]:List Value).drop 5).take 12:=rfl
     rw [e,List.getElem?_take] at hj
     split at hj
     ·rw [List.getElem?_drop] at hj
      exact (HBS4.out (5 + j) v hj).c
     ·cases hj
    have hbW:Below B wr w4:=HW4.out.mono (Nat.le_trans hB HBE.out.size)
    have HQ4':Hid (K.Qm w4 B x.q (.int .i64 kk) (.string kc) (.int .i64 kl) (.int .i64 kh) (.slice ka kn kd) (.slice kb km kp)):=HQm.out.keep hbW
    have HIn4:Hid (Ints w4 B nb (.slice xa x.bits.length xc) x.bits):=HIn.out.keep hbW
    clear hbW
    cases hbk:S.brk with
    | false =>
     as_aux_lemma =>
     obtain ⟨nm0,sz0,hl0,hnam⟩:=fst_col HWE.out
     obtain ⟨z,ez,hz⟩:∃ z ez,K.prtV (K.prt l x.q nm0)=(z,ez):=⟨_,_,rfl⟩
     obtain ⟨ls,lu,ld,e1,hA⟩:∃ ls lu ld e1,ansT x.u x.d x.lo x.hi l (K.rr rs) x.q=(ls,lu,ld,e1):=⟨_,_,_,_,rfl⟩
     obtain ⟨s',er,t2,hst⟩:=ask_shape S (preT e1 x.bits) (priT x.pn z ez lu ld) (drwT ls x.bits 0 [])
     have HST:Hid (stepH 0 S (.ask (preT e1 x.bits) (priT x.pn z ez lu ld) (drwT ls x.bits 0 []))=(s',⟨er,t2,[]⟩)):=hst
     have HEE:Hid (stepP l (K.rr rs) S x=(s',⟨er,t2.map fun t=>(t.1,t.2,lu,ld),[]⟩)):=step_ask h3 HWE.out hnam hz hA hst
     have hw4:=HI4.out.be.size
     have hN0:=HI4.out.bs
     have kP:=ask_any M bh w1.heap.size bw B nb (some ⟨bw,0,none⟩) c l (K.rr rs) S.disk S.left S.done x.pn _ _ _ _ _ _ xa xc x.bits x.q x.u x.d x.lo x.hi w4 (hhou' hbk) HI4.out.ds HMM.out (fun k m=>⟨by have:=(HI4.out.mm k m).1; omega,(HI4.out.mm k m).2.1⟩) ⟨by omega,by omega⟩ HI4.out.bs.2.2.1 HI4.out.i64 HX.out.2.2.2.2.2.2 (by omega) HQ4'.out HIn4.out HX.out.1 HX.out.2.1 HX.out.2.2.1 nm0 sz0 hl0 z ez hz ls lu ld e1 hA s' er t2 (by rw [st_eta h9' hbk]; exact hst)
     clear hst hz hA hnam hl0 hhou' hbrk' hmb' hbk hN0 hw4
     go_upto_region 20 with fail
     refine wp_region_lit ?_
     go_step
     go_step
     go_step
     go_step
     go_step
     go_step
     refine wpList_load_mid rfl 54 _ rfl wr.heap.size 5 rfl [.string x.pn,.int .i64 kk,.string kc,.int .i64 kl,.int .i64 kh,.slice ka kn kd,.slice kb km kp,.int .i64 x.u,.int .i64 x.d,.int .i64 x.lo,.int .i64 x.hi,.slice xa x.bits.length xc] _ HRA.out Tryz.underlying54 rfl infos54 ?_
     go_wp2_with fail
     refine kP.mono ?_
     rintro x5 w' ⟨hk5,hd5,M',hm5,hh5,hc5,hres⟩
     have HK5:Hid (Keeps w4 w' (fun k=>M k∨k=w1.heap.size∨k=bw)):=hk5
     have HD5:Hid (DskM w' w1.heap.size bw (some ⟨bw,0,none⟩) c s'.disk s'.left):=hd5
     have HM5:Hid (∀ k,M' k→M k∨w4.heap.size≤k∧k < w'.heap.size):=hm5
     have HH5:Hid ((s'.brk=false→HouM w' M' bh w1.heap.size l (K.rr rs) s'.done)∧(s'.brk=true→Cl w' bh 5 (.bool true))):=⟨hh5,hc5⟩
     have HTO:=ask_told HST.out h9'
     clear hk5 hd5 hm5 hh5 hc5 kP
     rcases hres with ⟨h0,rfl⟩ | ⟨h0,vs,us,g,htl,hne,hvl,hul,rfl,hg1,hg2,hrow⟩
     ·have HT2:Hid (t2=none):=HTO.1 h0
      clear HTO h0
      obtain ⟨w3,hw3⟩:∃ w3,((((w'.setCell ⟨wr.heap.size + 1,1,none⟩ (.slice none 0 0)).setCell ⟨wr.heap.size + 1,2,none⟩ (.int .i64 0)).setCell ⟨wr.heap.size + 1,3,none⟩ (.int .i64 0)).setCell ⟨wr.heap.size + 1,4,none⟩ (.int .i64 0)).setCell ⟨wr.heap.size + 1,0,none⟩ (.int .i64 er)=w3:=⟨_,rfl⟩
      have HBw:Bx w' (wr.heap.size + 1) [.int .i64 0,.slice none 0 0,.int .i64 0,.int .i64 0,.int .i64 0,.slice none 0 0]:=HBX4.out.kp HK5.out HNB.out
      have y0:=(HBw 0 _ rfl).c
      have y1:=(HBw 1 _ rfl).c
      have y2:=(HBw 2 _ rfl).c
      have y3:=(HBw 3 _ rfl).c
      have y4:=(HBw 4 _ rfl).c
      have z0:=(HBw 0 _ rfl).f
      have z1:=(HBw 1 _ rfl).f
      have z2:=(HBw 2 _ rfl).f
      have z3:=(HBw 3 _ rfl).f
      have z4:=(HBw 4 _ rfl).f
      have HB3:Hid (Bx w3 (wr.heap.size + 1) [.int .i64 er,.slice none 0 0,.int .i64 0,.int .i64 0,.int .i64 0,.slice none 0 0]):=hw3▸((((HBw.set (i:=1) (by simp) _).set (i:=2) (by simp) _).set (i:=3) (by simp) _).set (i:=4) (by simp) _).set (i:=0) (by simp) _
      have HW3:Hid (Keeps w' w3 (fun k=>k=wr.heap.size + 1)):=hw3▸(keeps_set (keeps_set (keeps_set (keeps_set (keeps_set (keeps_refl w' (fun k=>k=wr.heap.size + 1)) (p:=⟨wr.heap.size + 1,1,none⟩) (.inl rfl) _) (p:=⟨wr.heap.size + 1,2,none⟩) (.inl rfl) _) (p:=⟨wr.heap.size + 1,3,none⟩) (.inl rfl) _) (p:=⟨wr.heap.size + 1,4,none⟩) (.inl rfl) _) (p:=⟨wr.heap.size + 1,0,none⟩) (.inl rfl) _)
      clear HBw
      go_upto_region 23 with fail
      clear hw3 y0 y1 y2 y3 y4 z0 z1 z2 z3 z4 e0 b1 b4 b6 b2 b3
      have HI3:Hid (HuI W0 w3 (w.heap.size + 1) w1.heap.size bw (some ⟨bw,0,none⟩) c l (K.rr rs) (.pointer (some ⟨bh,0,none⟩)) u11 s' os (fun k=>M' k∨k=bh) G):=by
       have q1:=ask_64 HST.out HI1.out.w64 HI1.out.i64
       have q3:=HK5.out.size
       have q4:=(HI1.out.mm bh HMB.out).2.1
       exact HI1.out.call (s':=s') ((keeps_below HW4.out).trans HK5.out) HD5.out q1.1 q1.2.1 (fun k=>M' k∨k=bh) G (fun k m=>by
        rcases m with m | rfl
        ·exact (HM5.out k m).imp id (fun m=>⟨by omega,m.2⟩)
        ·exact .inl HMB.out) (fun k m=>.inl m) (fun _ m=>m) (fun h=>by rw [q1.2.2,h9'] at h; cases h) (fun _=>⟨HWE.out,bh,rfl,.inr rfl,fun h=>(HH5.out.1 h).mono (fun k m=>.inl m),HH5.out.2⟩) HW3.out
      have HS3:Hid (SeenM w3 G ⟨er,none,[]⟩ [.int .i64 er,.slice none 0 0,.int .i64 0,.int .i64 0,.int .i64 0,.slice none 0 0]):=seen0 w3 G er
      have HE3:Hid (stepP l (K.rr rs) S x=(s',⟨er,none,[]⟩)):=by
       rw [Hid,HEE.out,HT2.out]; rfl
      have HON:Hid (∀ u∈([.int .i64 er,.slice none 0 0,.int .i64 0,.int .i64 0,.int .i64 0,.slice none 0 0]:List Value),u.oneCell' = true):=by
       intro u hu
       simp only [List.mem_cons,List.not_mem_nil,or_false] at hu
       rcases hu with rfl | rfl | rfl | rfl | rfl | rfl <;> rfl
      obtain ⟨css,o1,o2,o3,o4⟩:=HI3.out.out
      have HO1:Hid (css.length=os.length∧(∀ g9,u11.ownBlock=some g9→g9≠w1.heap.size∧g9≠bw∧¬ G g9∧¬ (fun k=>M' k∨k=bh) g9)∧∀ (i:Nat) x cs,os[i]? = some x→css[i]? = some cs→SeenM w3 G x cs):=⟨o1,o3,o4⟩
      have HO2:Hid (w3.ownsRow (w.heap.size + 1) 42 6 u11 os.length css.flatten):=o2
      have HO3:Hid ((w3.alloc (.cells #[.int .i64 er,.slice none 0 0,.int .i64 0,.int .i64 0,.int .i64 0,.slice none 0 0] 42)).ownsRow (w.heap.size + 1) 42 6 u11 os.length css.flatten):=o2.alloc _
      have hN3:w.heap.size + 1≤w3.heap.size:=by have:=HI3.out.be.size; have:=HI3.out.bs.2.2.2; omega
      have r0:=(HB3.out 0 _ rfl).c
      have r1:=(HB3.out 1 _ rfl).c
      have r2:=(HB3.out 2 _ rfl).c
      have r3:=(HB3.out 3 _ rfl).c
      have r4:=(HB3.out 4 _ rfl).c
      have r5:=(HB3.out 5 _ rfl).c
      have HQ2:Hid (∀ j u,([.int .i64 er,.slice none 0 0,.int .i64 0,.int .i64 0,.int .i64 0,.slice none 0 0]:List Value)[j]? = some u→(w3.alloc (.cells #[.int .i64 er,.slice none 0 0,.int .i64 0,.int .i64 0,.int .i64 0,.slice none 0 0] 42)).cell? ((⟨w3.heap.size,0,none⟩:Addr).add j)=some u):=by
       intro j u hj
       have e:(⟨w3.heap.size,0,none⟩:Addr).add j=⟨w3.heap.size,j,none⟩:=by unfold Addr.add; split <;> simp_all
       rw [e]
       exact (Bx.new w3 [.int .i64 er,.slice none 0 0,.int .i64 0,.int .i64 0,.int .i64 0,.slice none 0 0] 42 rfl j u hj).c
      have HQ4:Hid (os.length + 1≤maxLen):=by have:=HOL.out; show _≤_; unfold maxLen; omega
      have HQ5:Hid ((os.length + 1) * 80≤140737488355328):=by have:=HOL.out; show _≤_; omega
      have HQ6:Hid (w.heap.size + 1≤(w3.alloc (.cells #[.int .i64 er,.slice none 0 0,.int .i64 0,.int .i64 0,.int .i64 0,.slice none 0 0] 42)).heap.size):=by show _≤_; simp; omega
      have HQ7:Hid ((w3.alloc (.cells #[.int .i64 er,.slice none 0 0,.int .i64 0,.int .i64 0,.int .i64 0,.slice none 0 0] 42)).heap.size=w3.heap.size + 1):=by show _=_; simp
      clear o1 o2 o3 o4
      refine wp_region_lit ?_
      go_step
      go_step
      go_step
      go_step
      go_step
      go_step
      refine wpList_build1 rfl 28 42 _ rfl w3.heap.size rfl _ rfl Tryz.underlying28 (.agg #[.int .i64 er,.slice none 0 0,.int .i64 0,.int .i64 0,.int .i64 0,.slice none 0 0]) rfl #[.int .i64 er,.slice none 0 0,.int .i64 0,.int .i64 0,.int .i64 0,.slice none 0 0] (blt42 _ _ _ _ _ _ _ _ _ _) ?_
      refine wpList_append_lies _ rfl _ _ 28 rfl (w.heap.size + 1) 42 i4 (.agg #[.int .i64 0,.slice none 0 0,.int .i64 0,.int .i64 0,.int .i64 0,.slice none 0 0]) 6 80 Tryz.underlying28 hi4 hz40 hz41 hz42 rfl (by decide) _ _ _ rfl HO3.out ⟨w3.heap.size,0,none⟩ 1 1 [.int .i64 er,.slice none 0 0,.int .i64 0,.int .i64 0,.int .i64 0,.slice none 0 0] rfl rfl HQ2.out HON.out (by decide) HQ4.out HQ5.out HQ6.out (w3.heap.size + 1) HQ7.out ?_
      intro g9 cap w5 hown hgrow hat hglt
      have h5:Hid (HuI W0 w5 (w.heap.size + 1) w1.heap.size bw (some ⟨bw,0,none⟩) c l (K.rr rs) (.pointer (some ⟨bh,0,none⟩)) (.slice (some ⟨g9,0,none⟩) (os.length + 1) cap) s' (os ++ [⟨er,none,[]⟩]) (fun k=>M' k∨k=bh) G):=by
       have hg3:w3.grownBy w5 u11.ownBlock:=⟨hgrow.os,hgrow.tape,hgrow.output,Nat.le_trans (by simp) hgrow.size,fun k hk hn=>(hgrow.block k (by simp; omega) hn).trans (Below.heap_alloc _ _ _ hk)⟩
       exact HI3.out.snoc HS3.out rfl css HO1.out.1 HO2.out HO1.out.2.1 HO1.out.2.2 hg3 hown (hat.imp id (fun h=>by omega))
      have HN5:=NXT.out s' ⟨er,none,[]⟩ HE3.out
      have HN6:Hid _:=HN5
      clear hown hgrow hat HN5 r0 r1 r2 r3 r4 r5 HB3 HO1 HO2 HO3
      go_wp2
      refine ⟨⟨i + 1,(fun k=>M' k∨k=bh),G,by go_num,h1,?_⟩,by simp [intOf]; omega⟩
      rw [HN6.out]
      exact h5
     ·subst h0
      have HT2:Hid (t2=some (vs,us)):=by rw [Hid,HTO.2 rfl]; exact htl
      have HVS:Hid (vs≠[]∧vs.length≤4096∧us≤65536):=⟨hne,hvl,hul⟩
      have HGG:Hid (w4.heap.size≤g∧¬ M' g∧K.RowI w' g vs):=⟨hg1,hg2,hrow⟩
      clear HTO htl hne hvl hul hg1 hg2 hrow
      obtain ⟨w3,hw3⟩:∃ w3,((((w'.setCell ⟨wr.heap.size + 1,1,none⟩ (.slice (some ⟨g,0,none⟩) vs.length vs.length)).setCell ⟨wr.heap.size + 1,2,none⟩ (.int .i64 (us:Int))).setCell ⟨wr.heap.size + 1,3,none⟩ (.int .i64 lu)).setCell ⟨wr.heap.size + 1,4,none⟩ (.int .i64 ld)).setCell ⟨wr.heap.size + 1,0,none⟩ (.int .i64 0)=w3:=⟨_,rfl⟩
      have HBw:Bx w' (wr.heap.size + 1) [.int .i64 0,.slice none 0 0,.int .i64 0,.int .i64 0,.int .i64 0,.slice none 0 0]:=HBX4.out.kp HK5.out HNB.out
      have y0:=(HBw 0 _ rfl).c
      have y1:=(HBw 1 _ rfl).c
      have y2:=(HBw 2 _ rfl).c
      have y3:=(HBw 3 _ rfl).c
      have y4:=(HBw 4 _ rfl).c
      have z0:=(HBw 0 _ rfl).f
      have z1:=(HBw 1 _ rfl).f
      have z2:=(HBw 2 _ rfl).f
      have z3:=(HBw 3 _ rfl).f
      have z4:=(HBw 4 _ rfl).f
      have HB3:Hid (Bx w3 (wr.heap.size + 1) [.int .i64 0,.slice (some ⟨g,0,none⟩) vs.length vs.length,.int .i64 (us:Int),.int .i64 lu,.int .i64 ld,.slice none 0 0]):=hw3▸((((HBw.set (i:=1) (by simp) _).set (i:=2) (by simp) _).set (i:=3) (by simp) _).set (i:=4) (by simp) _).set (i:=0) (by simp) _
      have HW3:Hid (Keeps w' w3 (fun k=>k=wr.heap.size + 1)):=hw3▸(keeps_set (keeps_set (keeps_set (keeps_set (keeps_set (keeps_refl w' (fun k=>k=wr.heap.size + 1)) (p:=⟨wr.heap.size + 1,1,none⟩) (.inl rfl) _) (p:=⟨wr.heap.size + 1,2,none⟩) (.inl rfl) _) (p:=⟨wr.heap.size + 1,3,none⟩) (.inl rfl) _) (p:=⟨wr.heap.size + 1,4,none⟩) (.inl rfl) _) (p:=⟨wr.heap.size + 1,0,none⟩) (.inl rfl) _)
      clear HBw
      go_upto_region 23 with fail
      clear hw3 y0 y1 y2 y3 y4 z0 z1 z2 z3 z4 e0 b1 b4 b6 b2 b3
      have HI3:Hid (HuI W0 w3 (w.heap.size + 1) w1.heap.size bw (some ⟨bw,0,none⟩) c l (K.rr rs) (.pointer (some ⟨bh,0,none⟩)) u11 s' os (fun k=>M' k∨k=bh) (fun k=>G k∨k=g)):=by
       have q1:=ask_64 HST.out HI1.out.w64 HI1.out.i64
       have q3:=HK5.out.size
       have q4:=(HI1.out.mm bh HMB.out).2.1
       exact HI1.out.call (s':=s') ((keeps_below HW4.out).trans HK5.out) HD5.out q1.1 q1.2.1 (fun k=>M' k∨k=bh) (fun k=>G k∨k=g) (fun k m=>by
        rcases m with m | rfl
        ·exact (HM5.out k m).imp id (fun m=>⟨by omega,m.2⟩)
        ·exact .inl HMB.out) (fun k m=>by
        rcases m with m | rfl
        ·exact .inl m
        ·have:=HGG.out.1
         refine .inr ⟨by omega,HGG.out.2.2.lt,fun z=>?_⟩
         rcases z with z | rfl
         ·exact HGG.out.2.1 z
         ·omega) (fun _ m=>.inl m) (fun h=>by rw [q1.2.2,h9'] at h; cases h) (fun _=>⟨HWE.out,bh,rfl,.inr rfl,fun h=>(HH5.out.1 h).mono (fun k m=>.inl m),HH5.out.2⟩) HW3.out
      have HS3:Hid (SeenM w3 (fun k=>G k∨k=g) ⟨0,some (vs,us,lu,ld),[]⟩ [.int .i64 0,.slice (some ⟨g,0,none⟩) vs.length vs.length,.int .i64 (us:Int),.int .i64 lu,.int .i64 ld,.slice none 0 0]):=by
       refine ⟨_,_,_,_,_,rfl,.inr ⟨vs,us,g,rfl,HVS.out.1,HVS.out.2.1,HVS.out.2.2,rfl,rfl,.inr rfl,rowi_kp HGG.out.2.2 HW3.out (by have:=HGG.out.1; omega)⟩,⟨rfl,.inl ⟨rfl,rfl⟩⟩,fun g hg=>by cases hg⟩
      have HE3:Hid (stepP l (K.rr rs) S x=(s',⟨0,some (vs,us,lu,ld),[]⟩)):=by
       rw [Hid,HEE.out,HT2.out]; rfl
      have HON:Hid (∀ u∈([.int .i64 0,.slice (some ⟨g,0,none⟩) vs.length vs.length,.int .i64 (us:Int),.int .i64 lu,.int .i64 ld,.slice none 0 0]:List Value),u.oneCell' = true):=by
       intro u hu
       simp only [List.mem_cons,List.not_mem_nil,or_false] at hu
       rcases hu with rfl | rfl | rfl | rfl | rfl | rfl <;> rfl
      obtain ⟨css,o1,o2,o3,o4⟩:=HI3.out.out
      have HO1:Hid (css.length=os.length∧(∀ g9,u11.ownBlock=some g9→g9≠w1.heap.size∧g9≠bw∧¬ (fun k=>G k∨k=g) g9∧¬ (fun k=>M' k∨k=bh) g9)∧∀ (i:Nat) x cs,os[i]? = some x→css[i]? = some cs→SeenM w3 (fun k=>G k∨k=g) x cs):=⟨o1,o3,o4⟩
      have HO2:Hid (w3.ownsRow (w.heap.size + 1) 42 6 u11 os.length css.flatten):=o2
      have HO3:Hid ((w3.alloc (.cells #[.int .i64 0,.slice (some ⟨g,0,none⟩) vs.length vs.length,.int .i64 (us:Int),.int .i64 lu,.int .i64 ld,.slice none 0 0] 42)).ownsRow (w.heap.size + 1) 42 6 u11 os.length css.flatten):=o2.alloc _
      have hN3:w.heap.size + 1≤w3.heap.size:=by have:=HI3.out.be.size; have:=HI3.out.bs.2.2.2; omega
      have r0:=(HB3.out 0 _ rfl).c
      have r1:=(HB3.out 1 _ rfl).c
      have r2:=(HB3.out 2 _ rfl).c
      have r3:=(HB3.out 3 _ rfl).c
      have r4:=(HB3.out 4 _ rfl).c
      have r5:=(HB3.out 5 _ rfl).c
      have HQ2:Hid (∀ j u,([.int .i64 0,.slice (some ⟨g,0,none⟩) vs.length vs.length,.int .i64 (us:Int),.int .i64 lu,.int .i64 ld,.slice none 0 0]:List Value)[j]? = some u→(w3.alloc (.cells #[.int .i64 0,.slice (some ⟨g,0,none⟩) vs.length vs.length,.int .i64 (us:Int),.int .i64 lu,.int .i64 ld,.slice none 0 0] 42)).cell? ((⟨w3.heap.size,0,none⟩:Addr).add j)=some u):=by
       intro j u hj
       have e:(⟨w3.heap.size,0,none⟩:Addr).add j=⟨w3.heap.size,j,none⟩:=by unfold Addr.add; split <;> simp_all
       rw [e]
       exact (Bx.new w3 [.int .i64 0,.slice (some ⟨g,0,none⟩) vs.length vs.length,.int .i64 (us:Int),.int .i64 lu,.int .i64 ld,.slice none 0 0] 42 rfl j u hj).c
      have HQ4:Hid (os.length + 1≤maxLen):=by have:=HOL.out; show _≤_; unfold maxLen; omega
      have HQ5:Hid ((os.length + 1) * 80≤140737488355328):=by have:=HOL.out; show _≤_; omega
      have HQ6:Hid (w.heap.size + 1≤(w3.alloc (.cells #[.int .i64 0,.slice (some ⟨g,0,none⟩) vs.length vs.length,.int .i64 (us:Int),.int .i64 lu,.int .i64 ld,.slice none 0 0] 42)).heap.size):=by show _≤_; simp; omega
      have HQ7:Hid ((w3.alloc (.cells #[.int .i64 0,.slice (some ⟨g,0,none⟩) vs.length vs.length,.int .i64 (us:Int),.int .i64 lu,.int .i64 ld,.slice none 0 0] 42)).heap.size=w3.heap.size + 1):=by show _=_; simp
      clear o1 o2 o3 o4
      refine wp_region_lit ?_
      go_step
      go_step
      go_step
      go_step
      go_step
      go_step
      refine wpList_build1 rfl 28 42 _ rfl w3.heap.size rfl _ rfl Tryz.underlying28 (.agg #[.int .i64 0,.slice (some ⟨g,0,none⟩) vs.length vs.length,.int .i64 (us:Int),.int .i64 lu,.int .i64 ld,.slice none 0 0]) rfl #[.int .i64 0,.slice (some ⟨g,0,none⟩) vs.length vs.length,.int .i64 (us:Int),.int .i64 lu,.int .i64 ld,.slice none 0 0] (blt42 _ _ _ _ _ _ _ _ _ _) ?_
      refine wpList_append_lies _ rfl _ _ 28 rfl (w.heap.size + 1) 42 i4 (.agg #[.int .i64 0,.slice none 0 0,.int .i64 0,.int .i64 0,.int .i64 0,.slice none 0 0]) 6 80 Tryz.underlying28 hi4 hz40 hz41 hz42 rfl (by decide) _ _ _ rfl HO3.out ⟨w3.heap.size,0,none⟩ 1 1 [.int .i64 0,.slice (some ⟨g,0,none⟩) vs.length vs.length,.int .i64 (us:Int),.int .i64 lu,.int .i64 ld,.slice none 0 0] rfl rfl HQ2.out HON.out (by decide) HQ4.out HQ5.out HQ6.out (w3.heap.size + 1) HQ7.out ?_
      intro g9 cap w5 hown hgrow hat hglt
      have h5:Hid (HuI W0 w5 (w.heap.size + 1) w1.heap.size bw (some ⟨bw,0,none⟩) c l (K.rr rs) (.pointer (some ⟨bh,0,none⟩)) (.slice (some ⟨g9,0,none⟩) (os.length + 1) cap) s' (os ++ [⟨0,some (vs,us,lu,ld),[]⟩]) (fun k=>M' k∨k=bh) (fun k=>G k∨k=g)):=by
       have hg3:w3.grownBy w5 u11.ownBlock:=⟨hgrow.os,hgrow.tape,hgrow.output,Nat.le_trans (by simp) hgrow.size,fun k hk hn=>(hgrow.block k (by simp; omega) hn).trans (Below.heap_alloc _ _ _ hk)⟩
       exact HI3.out.snoc HS3.out rfl css HO1.out.1 HO2.out HO1.out.2.1 HO1.out.2.2 hg3 hown (hat.imp id (fun h=>by omega))
      have HN5:=NXT.out s' ⟨0,some (vs,us,lu,ld),[]⟩ HE3.out
      have HN6:Hid _:=HN5
      clear hown hgrow hat HN5 r0 r1 r2 r3 r4 r5 HB3 HO1 HO2 HO3
      go_wp2
      refine ⟨⟨i + 1,(fun k=>M' k∨k=bh),(fun k=>G k∨k=g),by go_num,h1,?_⟩,by simp [intOf]; omega⟩
      rw [HN6.out]
      exact h5
    | true =>
     as_aux_lemma =>
     have kP:=ask_brk bh x.pn _ _ _ _ _ _ (.slice xa x.bits.length xc) x.u x.d x.lo x.hi w4 (hbrk' hbk) HQ4'.out.shape ⟨_,_,_,rfl⟩
     have HBK:Hid (S.brk=true):=hbk
     clear hhou' hbrk' hmb' hbk
     go_upto_region 20 with fail
     refine wp_region_lit ?_
     go_step
     go_step
     go_step
     go_step
     go_step
     go_step
     refine wpList_load_mid rfl 54 _ rfl wr.heap.size 5 rfl [.string x.pn,.int .i64 kk,.string kc,.int .i64 kl,.int .i64 kh,.slice ka kn kd,.slice kb km kp,.int .i64 x.u,.int .i64 x.d,.int .i64 x.lo,.int .i64 x.hi,.slice xa x.bits.length xc] _ HRA.out Tryz.underlying54 rfl infos54 ?_
     go_wp2_with fail
     refine kP.mono ?_
     rintro x5 w' ⟨rfl,hb5⟩
     have HB5:Hid (Below w4.heap.size w4 w'):=hb5
     have HK5:Hid (Keeps w4 w' (fun k=>M k∨k=w1.heap.size∨k=bw)):=keeps_below hb5
     clear hb5 kP
     obtain ⟨w3,hw3⟩:∃ w3,((((w'.setCell ⟨wr.heap.size + 1,1,none⟩ (.slice none 0 0)).setCell ⟨wr.heap.size + 1,2,none⟩ (.int .i64 0)).setCell ⟨wr.heap.size + 1,3,none⟩ (.int .i64 0)).setCell ⟨wr.heap.size + 1,4,none⟩ (.int .i64 0)).setCell ⟨wr.heap.size + 1,0,none⟩ (.int .i64 9)=w3:=⟨_,rfl⟩
     have HBw:Bx w' (wr.heap.size + 1) [.int .i64 0,.slice none 0 0,.int .i64 0,.int .i64 0,.int .i64 0,.slice none 0 0]:=HBX4.out.kp HK5.out HNB.out
     have y0:=(HBw 0 _ rfl).c
     have y1:=(HBw 1 _ rfl).c
     have y2:=(HBw 2 _ rfl).c
     have y3:=(HBw 3 _ rfl).c
     have y4:=(HBw 4 _ rfl).c
     have z0:=(HBw 0 _ rfl).f
     have z1:=(HBw 1 _ rfl).f
     have z2:=(HBw 2 _ rfl).f
     have z3:=(HBw 3 _ rfl).f
     have z4:=(HBw 4 _ rfl).f
     have HB3:Hid (Bx w3 (wr.heap.size + 1) [.int .i64 9,.slice none 0 0,.int .i64 0,.int .i64 0,.int .i64 0,.slice none 0 0]):=hw3▸((((HBw.set (i:=1) (by simp) _).set (i:=2) (by simp) _).set (i:=3) (by simp) _).set (i:=4) (by simp) _).set (i:=0) (by simp) _
     have HW3:Hid (Keeps w' w3 (fun k=>k=wr.heap.size + 1)):=hw3▸(keeps_set (keeps_set (keeps_set (keeps_set (keeps_set (keeps_refl w' (fun k=>k=wr.heap.size + 1)) (p:=⟨wr.heap.size + 1,1,none⟩) (.inl rfl) _) (p:=⟨wr.heap.size + 1,2,none⟩) (.inl rfl) _) (p:=⟨wr.heap.size + 1,3,none⟩) (.inl rfl) _) (p:=⟨wr.heap.size + 1,4,none⟩) (.inl rfl) _) (p:=⟨wr.heap.size + 1,0,none⟩) (.inl rfl) _)
     clear HBw
     go_upto_region 23 with fail
     clear hw3 y0 y1 y2 y3 y4 z0 z1 z2 z3 z4 e0 b1 b4 b6 b2 b3
     have HI3:Hid (HuI W0 w3 (w.heap.size + 1) w1.heap.size bw (some ⟨bw,0,none⟩) c l (K.rr rs) (.pointer (some ⟨bh,0,none⟩)) u11 S os M G) :=
      HI1.out.call (s':=S) (keeps_below (bt HW4.out HB5.out)) (HI4.out.ds.at HB5.out) HI1.out.w64 HI1.out.i64 M G (fun _ m=>.inl m) (fun _ m=>.inl m) (fun _ m=>m) (fun h=>by rw [h9'] at h; cases h) (fun u=>by
       obtain ⟨e,bh,q1,q2,q3,q4⟩:=HI4.out.up u
       exact ⟨e,bh,q1,q2,fun x=>(q3 x).kp (K:=fun _=>False) (keeps_below HB5.out) (fun _ _ h=>h),fun x=>(q4 x).at HB5.out⟩) HW3.out
     have HS3:Hid (SeenM w3 G ⟨9,none,[]⟩ [.int .i64 9,.slice none 0 0,.int .i64 0,.int .i64 0,.int .i64 0,.slice none 0 0]):=seen0 w3 G 9
     have HE3:Hid (stepP l (K.rr rs) S x=(S,⟨9,none,[]⟩)):=by
      unfold stepP evT
      rw [Hid,if_neg (fun h=>h8 h.1),if_neg h6,if_neg h7,if_neg h2,if_pos h3]
      simp [askE,stepH,h9',HBK.out]
     have HON:Hid (∀ u∈([.int .i64 9,.slice none 0 0,.int .i64 0,.int .i64 0,.int .i64 0,.slice none 0 0]:List Value),u.oneCell' = true):=by
      intro u hu
      simp only [List.mem_cons,List.not_mem_nil,or_false] at hu
      rcases hu with rfl | rfl | rfl | rfl | rfl | rfl <;> rfl
     obtain ⟨css,o1,o2,o3,o4⟩:=HI3.out.out
     have HO1:Hid (css.length=os.length∧(∀ g9,u11.ownBlock=some g9→g9≠w1.heap.size∧g9≠bw∧¬ G g9∧¬ M g9)∧∀ (i:Nat) x cs,os[i]? = some x→css[i]? = some cs→SeenM w3 G x cs):=⟨o1,o3,o4⟩
     have HO2:Hid (w3.ownsRow (w.heap.size + 1) 42 6 u11 os.length css.flatten):=o2
     have HO3:Hid ((w3.alloc (.cells #[.int .i64 9,.slice none 0 0,.int .i64 0,.int .i64 0,.int .i64 0,.slice none 0 0] 42)).ownsRow (w.heap.size + 1) 42 6 u11 os.length css.flatten):=o2.alloc _
     have hN3:w.heap.size + 1≤w3.heap.size:=by have:=HI3.out.be.size; have:=HI3.out.bs.2.2.2; omega
     have r0:=(HB3.out 0 _ rfl).c
     have r1:=(HB3.out 1 _ rfl).c
     have r2:=(HB3.out 2 _ rfl).c
     have r3:=(HB3.out 3 _ rfl).c
     have r4:=(HB3.out 4 _ rfl).c
     have r5:=(HB3.out 5 _ rfl).c
     have HQ2:Hid (∀ j u,([.int .i64 9,.slice none 0 0,.int .i64 0,.int .i64 0,.int .i64 0,.slice none 0 0]:List Value)[j]? = some u→(w3.alloc (.cells #[.int .i64 9,.slice none 0 0,.int .i64 0,.int .i64 0,.int .i64 0,.slice none 0 0] 42)).cell? ((⟨w3.heap.size,0,none⟩:Addr).add j)=some u):=by
      intro j u hj
      have e:(⟨w3.heap.size,0,none⟩:Addr).add j=⟨w3.heap.size,j,none⟩:=by unfold Addr.add; split <;> simp_all
      rw [e]
      exact (Bx.new w3 [.int .i64 9,.slice none 0 0,.int .i64 0,.int .i64 0,.int .i64 0,.slice none 0 0] 42 rfl j u hj).c
     have HQ4:Hid (os.length + 1≤maxLen):=by have:=HOL.out; show _≤_; unfold maxLen; omega
     have HQ5:Hid ((os.length + 1) * 80≤140737488355328):=by have:=HOL.out; show _≤_; omega
     have HQ6:Hid (w.heap.size + 1≤(w3.alloc (.cells #[.int .i64 9,.slice none 0 0,.int .i64 0,.int .i64 0,.int .i64 0,.slice none 0 0] 42)).heap.size):=by show _≤_; simp; omega
     have HQ7:Hid ((w3.alloc (.cells #[.int .i64 9,.slice none 0 0,.int .i64 0,.int .i64 0,.int .i64 0,.slice none 0 0] 42)).heap.size=w3.heap.size + 1):=by show _=_; simp
     clear o1 o2 o3 o4
     refine wp_region_lit ?_
     go_step
     go_step
     go_step
     go_step
     go_step
     go_step
     refine wpList_build1 rfl 28 42 _ rfl w3.heap.size rfl _ rfl Tryz.underlying28 (.agg #[.int .i64 9,.slice none 0 0,.int .i64 0,.int .i64 0,.int .i64 0,.slice none 0 0]) rfl #[.int .i64 9,.slice none 0 0,.int .i64 0,.int .i64 0,.int .i64 0,.slice none 0 0] (blt42 _ _ _ _ _ _ _ _ _ _) ?_
     refine wpList_append_lies _ rfl _ _ 28 rfl (w.heap.size + 1) 42 i4 (.agg #[.int .i64 0,.slice none 0 0,.int .i64 0,.int .i64 0,.int .i64 0,.slice none 0 0]) 6 80 Tryz.underlying28 hi4 hz40 hz41 hz42 rfl (by decide) _ _ _ rfl HO3.out ⟨w3.heap.size,0,none⟩ 1 1 [.int .i64 9,.slice none 0 0,.int .i64 0,.int .i64 0,.int .i64 0,.slice none 0 0] rfl rfl HQ2.out HON.out (by decide) HQ4.out HQ5.out HQ6.out (w3.heap.size + 1) HQ7.out ?_
     intro g9 cap w5 hown hgrow hat hglt
     have h5:Hid (HuI W0 w5 (w.heap.size + 1) w1.heap.size bw (some ⟨bw,0,none⟩) c l (K.rr rs) (.pointer (some ⟨bh,0,none⟩)) (.slice (some ⟨g9,0,none⟩) (os.length + 1) cap) S (os ++ [⟨9,none,[]⟩]) M G):=by
      have hg3:w3.grownBy w5 u11.ownBlock:=⟨hgrow.os,hgrow.tape,hgrow.output,Nat.le_trans (by simp) hgrow.size,fun k hk hn=>(hgrow.block k (by simp; omega) hn).trans (Below.heap_alloc _ _ _ hk)⟩
      exact HI3.out.snoc HS3.out rfl css HO1.out.1 HO2.out HO1.out.2.1 HO1.out.2.2 hg3 hown (hat.imp id (fun h=>by omega))
     have HN5:=NXT.out S ⟨9,none,[]⟩ HE3.out
     have HN6:Hid _:=HN5
     clear hown hgrow hat HN5 r0 r1 r2 r3 r4 r5 HB3 HO1 HO2 HO3
     go_wp2
     refine ⟨⟨i + 1,M,G,by go_num,h1,?_⟩,by simp [intOf]; omega⟩
     rw [HN6.out]
     exact h5
   by_cases h5:x.act=5
   ·as_aux_lemma =>
    have b6:(x.act == 6)=false:=by simpa using h8
    have dk0:=HI2.out.ds.c0.c
    go_wp2_with fail
    go_quiet (fail)
    obtain ⟨w4,hw4⟩:∃ w4,w2.drewN nq=w4:=⟨_,rfl⟩
    have hb4:Below w2.heap.size w2 w4:=hw4▸(⟨rfl,rfl,rfl,Nat.le_refl _,fun _ _=>rfl⟩:Below w2.heap.size w2 (w2.drewN nq))
    have HI4:Hid (HuI W0 w4 (w.heap.size + 1) w1.heap.size bw (some ⟨bw,0,none⟩) c l (K.rr rs) (.pointer (some ⟨bh,0,none⟩)) u11 S os M G):=HI2.out.at hb4
    have HBX4:Hid (Bx w4 (wr.heap.size + 1) [.int .i64 0,.slice none 0 0,.int .i64 0,.int .i64 0,.int .i64 0,.slice none 0 0]):=HBX.out.at hb4
    have HBS4:Hid (Bx w4 wr.heap.size [.int .i64 x.act,.int .i64 x.n,.string x.nm,.int .i64 x.bu,.int .i64 x.bd,.string x.pn,.int .i64 kk,.string kc,.int .i64 kl,.int .i64 kh,.slice ka kn kd,.slice kb km kp,.int .i64 x.u,.int .i64 x.d,.int .i64 x.lo,.int .i64 x.hi,.slice xa x.bits.length xc,.int .i64 x.word]):=HBS.out.at hb4
    have HW4:Hid (Below wr.heap.size wr w4):=bt HW2.out hb4
    have hs4:wr.heap.size + 2≤w4.heap.size:=by have:=hb4.size; omega
    have e0:=(HBS4.out 0 _ rfl).c
    have HMM:Hid (¬ M w1.heap.size∧¬ M bw):=⟨fun m=>(HI4.out.mm _ m).2.2.1 rfl,fun m=>(HI4.out.mm _ m).2.2.2.1 rfl⟩
    have HNB:Hid (¬ (M (wr.heap.size + 1)∨wr.heap.size + 1=w1.heap.size∨wr.heap.size + 1=bw)):=fun h=>by have:=HNE.out _ h; omega
    clear hb4 a0 a1 dk0
    have b2:(x.act == 2)=false:=by simpa using h2
    have b3:(x.act == 3)=false:=by simpa using h3
    have b5:(x.act == 5)=true:=by simpa using h5
    obtain ⟨_,bh',hv1,hmb',hhou',hbrk'⟩:=HI4.out.up h9'
    cases hv1
    cases hbk:S.brk with
    | false =>
     as_aux_lemma =>
     have kP:=K.P.ents_any M bh w1.heap.size l (K.rr rs) S.done w4 (hhou' hbk)
     have HHO:Hid (HouM w4 M bh w1.heap.size l (K.rr rs) S.done):=hhou' hbk
     have HBK:Hid (S.brk=false):=hbk
     clear hhou' hbrk' hmb' hbk
     go_wp2_with fail
     refine kP.mono ?_
     rintro x5 w' ⟨r,rfl,ho5,hb5⟩
     obtain ⟨ea,ec,rfl⟩:=K.P.row_slice ho5
     have HB5:Hid (Below w4.heap.size w4 w'):=hb5
     have HO5:Hid (w'.ownsRow w4.heap.size 59 5 (.slice ea S.done.length ec) S.done.length (enc S.done)):=ho5
     obtain ⟨w3,hw3⟩:∃ w3,(w'.setCell ⟨wr.heap.size + 1,5,none⟩ (.slice ea S.done.length ec)).setCell ⟨wr.heap.size + 1,0,none⟩ (.int .i64 0)=w3:=⟨_,rfl⟩
     have HBw:Bx w' (wr.heap.size + 1) [.int .i64 0,.slice none 0 0,.int .i64 0,.int .i64 0,.int .i64 0,.slice none 0 0]:=HBX4.out.at hb5
     have y0:=(HBw 5 _ rfl).c
     have y1:=(HBw 5 _ rfl).f
     have HBv:Bx (w'.setCell ⟨wr.heap.size + 1,5,none⟩ (.slice ea S.done.length ec)) (wr.heap.size + 1) [.int .i64 0,.slice none 0 0,.int .i64 0,.int .i64 0,.int .i64 0,.slice ea S.done.length ec]:=HBw.set (i:=5) (by simp) _
     have y2:=(HBw 0 _ rfl).c
     have y3:=(HBw 0 _ rfl).f
     have HB3:Hid (Bx w3 (wr.heap.size + 1) [.int .i64 0,.slice none 0 0,.int .i64 0,.int .i64 0,.int .i64 0,.slice ea S.done.length ec]):=hw3▸HBv.set (i:=0) (by simp) _
     have HW3:Hid (Keeps w' w3 (fun k=>k=wr.heap.size + 1)):=hw3▸keeps_set (keeps_set (keeps_refl w' (fun k=>k=wr.heap.size + 1)) (p:=⟨wr.heap.size + 1,5,none⟩) (.inl rfl) _) (p:=⟨wr.heap.size + 1,0,none⟩) (.inl rfl) _
     clear HBw HBv hb5 ho5 kP
     go_upto_region 23 with fail
     clear hw3 y0 y1 y2 y3 e0 b1 b4 b6 b2 b3 b5
     have HI3:Hid (HuI W0 w3 (w.heap.size + 1) w1.heap.size bw (some ⟨bw,0,none⟩) c l (K.rr rs) (.pointer (some ⟨bh,0,none⟩)) u11 S os M (fun k=>G k∨(Value.slice ea S.done.length ec).ownBlock=some k)) :=
      HI1.out.call (s':=S) (keeps_below (bt HW4.out HB5.out)) (HI4.out.ds.at HB5.out) HI1.out.w64 HI1.out.i64 M (fun k=>G k∨(Value.slice ea S.done.length ec).ownBlock=some k) (fun _ m=>.inl m) (fun k m=>by
       rcases m with m | m
       ·exact .inl m
       ·have q:=K.P.row_lt HO5.out m
        refine .inr ⟨by omega,q.2,fun z=>?_⟩
        have:=(HI1.out.mm k z).2.1
        omega) (fun _ m=>.inl m) (fun h=>by rw [h9'] at h; cases h) (fun _=>⟨HWE.out,bh,rfl,HMB.out,fun _=>HHO.out.kp (K:=fun _=>False) (keeps_below HB5.out) (fun _ _ h=>h),fun h=>by rw [HBK.out] at h; cases h⟩) HW3.out
     have HS3:Hid (SeenM w3 (fun k=>G k∨(Value.slice ea S.done.length ec).ownBlock=some k) ⟨0,none,S.done⟩ [.int .i64 0,.slice none 0 0,.int .i64 0,.int .i64 0,.int .i64 0,.slice ea S.done.length ec]):=by
      refine ⟨_,_,_,_,_,rfl,.inl ⟨rfl,rfl,rfl,rfl,rfl⟩,row_base (row_keeps HO5.out HW3.out (fun g hg e=>?_)) (Nat.zero_le _),fun g hg=>.inr hg⟩
      have:=(K.P.row_lt HO5.out hg).1
      omega
     have HE3:Hid (stepP l (K.rr rs) S x=(S,⟨0,none,S.done⟩)):=by
      unfold stepP evT
      rw [Hid,if_neg (fun h=>h8 h.1),if_neg h6,if_neg h7,if_neg h2,if_neg h3,if_pos h5]
      simp [stepH,h9',HBK.out]
     have HON:Hid (∀ u∈([.int .i64 0,.slice none 0 0,.int .i64 0,.int .i64 0,.int .i64 0,.slice ea S.done.length ec]:List Value),u.oneCell' = true):=by
      intro u hu
      simp only [List.mem_cons,List.not_mem_nil,or_false] at hu
      rcases hu with rfl | rfl | rfl | rfl | rfl | rfl <;> rfl
     obtain ⟨css,o1,o2,o3,o4⟩:=HI3.out.out
     have HO1:Hid (css.length=os.length∧(∀ g9,u11.ownBlock=some g9→g9≠w1.heap.size∧g9≠bw∧¬ (fun k=>G k∨(Value.slice ea S.done.length ec).ownBlock=some k) g9∧¬ M g9)∧∀ (i:Nat) x cs,os[i]? = some x→css[i]? = some cs→SeenM w3 (fun k=>G k∨(Value.slice ea S.done.length ec).ownBlock=some k) x cs):=⟨o1,o3,o4⟩
     have HO2:Hid (w3.ownsRow (w.heap.size + 1) 42 6 u11 os.length css.flatten):=o2
     have HO3:Hid ((w3.alloc (.cells #[.int .i64 0,.slice none 0 0,.int .i64 0,.int .i64 0,.int .i64 0,.slice ea S.done.length ec] 42)).ownsRow (w.heap.size + 1) 42 6 u11 os.length css.flatten):=o2.alloc _
     have hN3:w.heap.size + 1≤w3.heap.size:=by have:=HI3.out.be.size; have:=HI3.out.bs.2.2.2; omega
     have r0:=(HB3.out 0 _ rfl).c
     have r1:=(HB3.out 1 _ rfl).c
     have r2:=(HB3.out 2 _ rfl).c
     have r3:=(HB3.out 3 _ rfl).c
     have r4:=(HB3.out 4 _ rfl).c
     have r5:=(HB3.out 5 _ rfl).c
     have HQ2:Hid (∀ j u,([.int .i64 0,.slice none 0 0,.int .i64 0,.int .i64 0,.int .i64 0,.slice ea S.done.length ec]:List Value)[j]? = some u→(w3.alloc (.cells #[.int .i64 0,.slice none 0 0,.int .i64 0,.int .i64 0,.int .i64 0,.slice ea S.done.length ec] 42)).cell? ((⟨w3.heap.size,0,none⟩:Addr).add j)=some u):=by
      intro j u hj
      have e:(⟨w3.heap.size,0,none⟩:Addr).add j=⟨w3.heap.size,j,none⟩:=by unfold Addr.add; split <;> simp_all
      rw [e]
      exact (Bx.new w3 [.int .i64 0,.slice none 0 0,.int .i64 0,.int .i64 0,.int .i64 0,.slice ea S.done.length ec] 42 rfl j u hj).c
     have HQ4:Hid (os.length + 1≤maxLen):=by have:=HOL.out; show _≤_; unfold maxLen; omega
     have HQ5:Hid ((os.length + 1) * 80≤140737488355328):=by have:=HOL.out; show _≤_; omega
     have HQ6:Hid (w.heap.size + 1≤(w3.alloc (.cells #[.int .i64 0,.slice none 0 0,.int .i64 0,.int .i64 0,.int .i64 0,.slice ea S.done.length ec] 42)).heap.size):=by show _≤_; simp; omega
     have HQ7:Hid ((w3.alloc (.cells #[.int .i64 0,.slice none 0 0,.int .i64 0,.int .i64 0,.int .i64 0,.slice ea S.done.length ec] 42)).heap.size=w3.heap.size + 1):=by show _=_; simp
     clear o1 o2 o3 o4
     refine wp_region_lit ?_
     go_step
     go_step
     go_step
     go_step
     go_step
     go_step
     refine wpList_build1 rfl 28 42 _ rfl w3.heap.size rfl _ rfl Tryz.underlying28 (.agg #[.int .i64 0,.slice none 0 0,.int .i64 0,.int .i64 0,.int .i64 0,.slice ea S.done.length ec]) rfl #[.int .i64 0,.slice none 0 0,.int .i64 0,.int .i64 0,.int .i64 0,.slice ea S.done.length ec] (blt42 _ _ _ _ _ _ _ _ _ _) ?_
     refine wpList_append_lies _ rfl _ _ 28 rfl (w.heap.size + 1) 42 i4 (.agg #[.int .i64 0,.slice none 0 0,.int .i64 0,.int .i64 0,.int .i64 0,.slice none 0 0]) 6 80 Tryz.underlying28 hi4 hz40 hz41 hz42 rfl (by decide) _ _ _ rfl HO3.out ⟨w3.heap.size,0,none⟩ 1 1 [.int .i64 0,.slice none 0 0,.int .i64 0,.int .i64 0,.int .i64 0,.slice ea S.done.length ec] rfl rfl HQ2.out HON.out (by decide) HQ4.out HQ5.out HQ6.out (w3.heap.size + 1) HQ7.out ?_
     intro g9 cap w5 hown hgrow hat hglt
     have h5:Hid (HuI W0 w5 (w.heap.size + 1) w1.heap.size bw (some ⟨bw,0,none⟩) c l (K.rr rs) (.pointer (some ⟨bh,0,none⟩)) (.slice (some ⟨g9,0,none⟩) (os.length + 1) cap) S (os ++ [⟨0,none,S.done⟩]) M (fun k=>G k∨(Value.slice ea S.done.length ec).ownBlock=some k)):=by
      have hg3:w3.grownBy w5 u11.ownBlock:=⟨hgrow.os,hgrow.tape,hgrow.output,Nat.le_trans (by simp) hgrow.size,fun k hk hn=>(hgrow.block k (by simp; omega) hn).trans (Below.heap_alloc _ _ _ hk)⟩
      exact HI3.out.snoc HS3.out rfl css HO1.out.1 HO2.out HO1.out.2.1 HO1.out.2.2 hg3 hown (hat.imp id (fun h=>by omega))
     have HN5:=NXT.out S ⟨0,none,S.done⟩ HE3.out
     have HN6:Hid _:=HN5
     clear hown hgrow hat HN5 r0 r1 r2 r3 r4 r5 HB3 HO1 HO2 HO3
     go_wp2
     refine ⟨⟨i + 1,M,(fun k=>G k∨(Value.slice ea S.done.length ec).ownBlock=some k),by go_num,h1,?_⟩,by simp [intOf]; omega⟩
     rw [HN6.out]
     exact h5
    | true =>
     as_aux_lemma =>
     have kP:=K.P.ents_brk bh w4 (hbrk' hbk)
     have HBK:Hid (S.brk=true):=hbk
     clear hhou' hbrk' hmb' hbk
     go_wp2_with fail
     refine kP.mono ?_
     rintro x5 w' ⟨rfl,hw'⟩
     have HB5:Hid (Below w4.heap.size w4 w'):=hw'▸Below.refl _ _
     have hb5:=HB5.out
     clear hw'
     obtain ⟨w3,hw3⟩:∃ w3,(w'.setCell ⟨wr.heap.size + 1,5,none⟩ (.slice none 0 0)).setCell ⟨wr.heap.size + 1,0,none⟩ (.int .i64 9)=w3:=⟨_,rfl⟩
     have HBw:Bx w' (wr.heap.size + 1) [.int .i64 0,.slice none 0 0,.int .i64 0,.int .i64 0,.int .i64 0,.slice none 0 0]:=HBX4.out.at hb5
     have y0:=(HBw 5 _ rfl).c
     have y1:=(HBw 5 _ rfl).f
     have HBv:Bx (w'.setCell ⟨wr.heap.size + 1,5,none⟩ (.slice none 0 0)) (wr.heap.size + 1) [.int .i64 0,.slice none 0 0,.int .i64 0,.int .i64 0,.int .i64 0,.slice none 0 0]:=HBw.set (i:=5) (by simp) _
     have y2:=(HBw 0 _ rfl).c
     have y3:=(HBw 0 _ rfl).f
     have HB3:Hid (Bx w3 (wr.heap.size + 1) [.int .i64 9,.slice none 0 0,.int .i64 0,.int .i64 0,.int .i64 0,.slice none 0 0]):=hw3▸HBv.set (i:=0) (by simp) _
     have HW3:Hid (Keeps w' w3 (fun k=>k=wr.heap.size + 1)):=hw3▸keeps_set (keeps_set (keeps_refl w' (fun k=>k=wr.heap.size + 1)) (p:=⟨wr.heap.size + 1,5,none⟩) (.inl rfl) _) (p:=⟨wr.heap.size + 1,0,none⟩) (.inl rfl) _
     clear HBw HBv hb5 kP
     go_upto_region 23 with fail
     clear hw3 y0 y1 y2 y3 e0 b1 b4 b6 b2 b3 b5
     have HI3:Hid (HuI W0 w3 (w.heap.size + 1) w1.heap.size bw (some ⟨bw,0,none⟩) c l (K.rr rs) (.pointer (some ⟨bh,0,none⟩)) u11 S os M G) :=
      HI1.out.call (s':=S) (keeps_below (bt HW4.out HB5.out)) (HI4.out.ds.at HB5.out) HI1.out.w64 HI1.out.i64 M G (fun _ m=>.inl m) (fun _ m=>.inl m) (fun _ m=>m) (fun h=>by rw [h9'] at h; cases h) (fun u=>by
       obtain ⟨e,bh,q1,q2,q3,q4⟩:=HI4.out.up u
       exact ⟨e,bh,q1,q2,fun x=>(q3 x).kp (K:=fun _=>False) (keeps_below HB5.out) (fun _ _ h=>h),fun x=>(q4 x).at HB5.out⟩) HW3.out
     have HS3:Hid (SeenM w3 G ⟨9,none,[]⟩ [.int .i64 9,.slice none 0 0,.int .i64 0,.int .i64 0,.int .i64 0,.slice none 0 0]):=seen0 w3 G 9
     have HE3:Hid (stepP l (K.rr rs) S x=(S,⟨9,none,[]⟩)):=by
      unfold stepP evT
      rw [Hid,if_neg (fun h=>h8 h.1),if_neg h6,if_neg h7,if_neg h2,if_neg h3,if_pos h5]
      simp [stepH,h9',HBK.out]
     have HON:Hid (∀ u∈([.int .i64 9,.slice none 0 0,.int .i64 0,.int .i64 0,.int .i64 0,.slice none 0 0]:List Value),u.oneCell' = true):=by
      intro u hu
      simp only [List.mem_cons,List.not_mem_nil,or_false] at hu
      rcases hu with rfl | rfl | rfl | rfl | rfl | rfl <;> rfl
     obtain ⟨css,o1,o2,o3,o4⟩:=HI3.out.out
     have HO1:Hid (css.length=os.length∧(∀ g9,u11.ownBlock=some g9→g9≠w1.heap.size∧g9≠bw∧¬ G g9∧¬ M g9)∧∀ (i:Nat) x cs,os[i]? = some x→css[i]? = some cs→SeenM w3 G x cs):=⟨o1,o3,o4⟩
     have HO2:Hid (w3.ownsRow (w.heap.size + 1) 42 6 u11 os.length css.flatten):=o2
     have HO3:Hid ((w3.alloc (.cells #[.int .i64 9,.slice none 0 0,.int .i64 0,.int .i64 0,.int .i64 0,.slice none 0 0] 42)).ownsRow (w.heap.size + 1) 42 6 u11 os.length css.flatten):=o2.alloc _
     have hN3:w.heap.size + 1≤w3.heap.size:=by have:=HI3.out.be.size; have:=HI3.out.bs.2.2.2; omega
     have r0:=(HB3.out 0 _ rfl).c
     have r1:=(HB3.out 1 _ rfl).c
     have r2:=(HB3.out 2 _ rfl).c
     have r3:=(HB3.out 3 _ rfl).c
     have r4:=(HB3.out 4 _ rfl).c
     have r5:=(HB3.out 5 _ rfl).c
     have HQ2:Hid (∀ j u,([.int .i64 9,.slice none 0 0,.int .i64 0,.int .i64 0,.int .i64 0,.slice none 0 0]:List Value)[j]? = some u→(w3.alloc (.cells #[.int .i64 9,.slice none 0 0,.int .i64 0,.int .i64 0,.int .i64 0,.slice none 0 0] 42)).cell? ((⟨w3.heap.size,0,none⟩:Addr).add j)=some u):=by
      intro j u hj
      have e:(⟨w3.heap.size,0,none⟩:Addr).add j=⟨w3.heap.size,j,none⟩:=by unfold Addr.add; split <;> simp_all
      rw [e]
      exact (Bx.new w3 [.int .i64 9,.slice none 0 0,.int .i64 0,.int .i64 0,.int .i64 0,.slice none 0 0] 42 rfl j u hj).c
     have HQ4:Hid (os.length + 1≤maxLen):=by have:=HOL.out; show _≤_; unfold maxLen; omega
     have HQ5:Hid ((os.length + 1) * 80≤140737488355328):=by have:=HOL.out; show _≤_; omega
     have HQ6:Hid (w.heap.size + 1≤(w3.alloc (.cells #[.int .i64 9,.slice none 0 0,.int .i64 0,.int .i64 0,.int .i64 0,.slice none 0 0] 42)).heap.size):=by show _≤_; simp; omega
     have HQ7:Hid ((w3.alloc (.cells #[.int .i64 9,.slice none 0 0,.int .i64 0,.int .i64 0,.int .i64 0,.slice none 0 0] 42)).heap.size=w3.heap.size + 1):=by show _=_; simp
     clear o1 o2 o3 o4
     refine wp_region_lit ?_
     go_step
     go_step
     go_step
     go_step
     go_step
     go_step
     refine wpList_build1 rfl 28 42 _ rfl w3.heap.size rfl _ rfl Tryz.underlying28 (.agg #[.int .i64 9,.slice none 0 0,.int .i64 0,.int .i64 0,.int .i64 0,.slice none 0 0]) rfl #[.int .i64 9,.slice none 0 0,.int .i64 0,.int .i64 0,.int .i64 0,.slice none 0 0] (blt42 _ _ _ _ _ _ _ _ _ _) ?_
     refine wpList_append_lies _ rfl _ _ 28 rfl (w.heap.size + 1) 42 i4 (.agg #[.int .i64 0,.slice none 0 0,.int .i64 0,.int .i64 0,.int .i64 0,.slice none 0 0]) 6 80 Tryz.underlying28 hi4 hz40 hz41 hz42 rfl (by decide) _ _ _ rfl HO3.out ⟨w3.heap.size,0,none⟩ 1 1 [.int .i64 9,.slice none 0 0,.int .i64 0,.int .i64 0,.int .i64 0,.slice none 0 0] rfl rfl HQ2.out HON.out (by decide) HQ4.out HQ5.out HQ6.out (w3.heap.size + 1) HQ7.out ?_
     intro g9 cap w5 hown hgrow hat hglt
     have h5:Hid (HuI W0 w5 (w.heap.size + 1) w1.heap.size bw (some ⟨bw,0,none⟩) c l (K.rr rs) (.pointer (some ⟨bh,0,none⟩)) (.slice (some ⟨g9,0,none⟩) (os.length + 1) cap) S (os ++ [⟨9,none,[]⟩]) M G):=by
      have hg3:w3.grownBy w5 u11.ownBlock:=⟨hgrow.os,hgrow.tape,hgrow.output,Nat.le_trans (by simp) hgrow.size,fun k hk hn=>(hgrow.block k (by simp; omega) hn).trans (Below.heap_alloc _ _ _ hk)⟩
      exact HI3.out.snoc HS3.out rfl css HO1.out.1 HO2.out HO1.out.2.1 HO1.out.2.2 hg3 hown (hat.imp id (fun h=>by omega))
     have HN5:=NXT.out S ⟨9,none,[]⟩ HE3.out
     have HN6:Hid _:=HN5
     clear hown hgrow hat HN5 r0 r1 r2 r3 r4 r5 HB3 HO1 HO2 HO3
     go_wp2
     refine ⟨⟨i + 1,M,G,by go_num,h1,?_⟩,by simp [intOf]; omega⟩
     rw [HN6.out]
     exact h5
   as_aux_lemma =>
    have b6:(x.act == 6)=false:=by simpa using h8
    have dk0:=HI2.out.ds.c0.c
    have b2:(x.act == 2)=false:=by simpa using h2
    have b3:(x.act == 3)=false:=by simpa using h3
    have b5:(x.act == 5)=false:=by simpa using h5
    go_wp2_with fail
    go_quiet (fail)
    obtain ⟨w3,hw3⟩:∃ w3,w2.drewN nq=w3:=⟨_,rfl⟩
    have hb3:Below w2.heap.size w2 w3:=hw3▸(⟨rfl,rfl,rfl,Nat.le_refl _,fun _ _=>rfl⟩:Below w2.heap.size w2 (w2.drewN nq))
    have HI3:Hid (HuI W0 w3 (w.heap.size + 1) w1.heap.size bw (some ⟨bw,0,none⟩) c l (K.rr rs) (.pointer (some ⟨bh,0,none⟩)) u11 S os M G):=HI2.out.at hb3
    have HS3:Hid (SeenM w3 G ⟨0,none,[]⟩ [.int .i64 0,.slice none 0 0,.int .i64 0,.int .i64 0,.int .i64 0,.slice none 0 0]):=seen0 w3 G 0
    have HB3:Hid (Bx w3 (wr.heap.size + 1) [.int .i64 0,.slice none 0 0,.int .i64 0,.int .i64 0,.int .i64 0,.slice none 0 0]):=HBX.out.at hb3
    have e0:=((HBS.out 0 _ rfl).at hb3).c
    go_upto_region 23 with fail
    clear hw3 hb3 e0 a0 a1 dk0
    have HE3:Hid (stepP l (K.rr rs) S x=(S,⟨0,none,[]⟩)):=by
     unfold stepP evT
     rw [Hid,if_neg (fun h=>h8 h.1),if_neg h6,if_neg h7,if_neg h2,if_neg h3,if_neg h5]
     rfl
    have HON:Hid (∀ u∈([.int .i64 0,.slice none 0 0,.int .i64 0,.int .i64 0,.int .i64 0,.slice none 0 0]:List Value),u.oneCell' = true):=by
     intro u hu
     simp only [List.mem_cons,List.not_mem_nil,or_false] at hu
     rcases hu with rfl | rfl | rfl | rfl | rfl | rfl <;> rfl
    obtain ⟨css,o1,o2,o3,o4⟩:=HI3.out.out
    have HO1:Hid (css.length=os.length∧(∀ g9,u11.ownBlock=some g9→g9≠w1.heap.size∧g9≠bw∧¬ G g9∧¬ M g9)∧∀ (i:Nat) x cs,os[i]? = some x→css[i]? = some cs→SeenM w3 G x cs):=⟨o1,o3,o4⟩
    have HO2:Hid (w3.ownsRow (w.heap.size + 1) 42 6 u11 os.length css.flatten):=o2
    have HO3:Hid ((w3.alloc (.cells #[.int .i64 0,.slice none 0 0,.int .i64 0,.int .i64 0,.int .i64 0,.slice none 0 0] 42)).ownsRow (w.heap.size + 1) 42 6 u11 os.length css.flatten):=o2.alloc _
    have hN3:w.heap.size + 1≤w3.heap.size:=by have:=HI3.out.be.size; have:=HI3.out.bs.2.2.2; omega
    have r0:=(HB3.out 0 _ rfl).c
    have r1:=(HB3.out 1 _ rfl).c
    have r2:=(HB3.out 2 _ rfl).c
    have r3:=(HB3.out 3 _ rfl).c
    have r4:=(HB3.out 4 _ rfl).c
    have r5:=(HB3.out 5 _ rfl).c
    have HQ2:Hid (∀ j u,([.int .i64 0,.slice none 0 0,.int .i64 0,.int .i64 0,.int .i64 0,.slice none 0 0]:List Value)[j]? = some u→(w3.alloc (.cells #[.int .i64 0,.slice none 0 0,.int .i64 0,.int .i64 0,.int .i64 0,.slice none 0 0] 42)).cell? ((⟨w3.heap.size,0,none⟩:Addr).add j)=some u):=by
     intro j u hj
     have e:(⟨w3.heap.size,0,none⟩:Addr).add j=⟨w3.heap.size,j,none⟩:=by unfold Addr.add; split <;> simp_all
     rw [e]
     exact (Bx.new w3 [.int .i64 0,.slice none 0 0,.int .i64 0,.int .i64 0,.int .i64 0,.slice none 0 0] 42 rfl j u hj).c
    have HQ4:Hid (os.length + 1≤maxLen):=by have:=HOL.out; show _≤_; unfold maxLen; omega
    have HQ5:Hid ((os.length + 1) * 80≤140737488355328):=by have:=HOL.out; show _≤_; omega
    have HQ6:Hid (w.heap.size + 1≤(w3.alloc (.cells #[.int .i64 0,.slice none 0 0,.int .i64 0,.int .i64 0,.int .i64 0,.slice none 0 0] 42)).heap.size):=by show _≤_; simp; omega
    have HQ7:Hid ((w3.alloc (.cells #[.int .i64 0,.slice none 0 0,.int .i64 0,.int .i64 0,.int .i64 0,.slice none 0 0] 42)).heap.size=w3.heap.size + 1):=by show _=_; simp
    clear o1 o2 o3 o4
    refine wp_region_lit ?_
    go_step
    go_step
    go_step
    go_step
    go_step
    go_step
    refine wpList_build1 rfl 28 42 _ rfl w3.heap.size rfl _ rfl Tryz.underlying28 (.agg #[.int .i64 0,.slice none 0 0,.int .i64 0,.int .i64 0,.int .i64 0,.slice none 0 0]) rfl #[.int .i64 0,.slice none 0 0,.int .i64 0,.int .i64 0,.int .i64 0,.slice none 0 0] (blt42 _ _ _ _ _ _ _ _ _ _) ?_
    refine wpList_append_lies _ rfl _ _ 28 rfl (w.heap.size + 1) 42 i4 (.agg #[.int .i64 0,.slice none 0 0,.int .i64 0,.int .i64 0,.int .i64 0,.slice none 0 0]) 6 80 Tryz.underlying28 hi4 hz40 hz41 hz42 rfl (by decide) _ _ _ rfl HO3.out ⟨w3.heap.size,0,none⟩ 1 1 [.int .i64 0,.slice none 0 0,.int .i64 0,.int .i64 0,.int .i64 0,.slice none 0 0] rfl rfl HQ2.out HON.out (by decide) HQ4.out HQ5.out HQ6.out (w3.heap.size + 1) HQ7.out ?_
    intro g9 cap w5 hown hgrow hat hglt
    have h5:Hid (HuI W0 w5 (w.heap.size + 1) w1.heap.size bw (some ⟨bw,0,none⟩) c l (K.rr rs) (.pointer (some ⟨bh,0,none⟩)) (.slice (some ⟨g9,0,none⟩) (os.length + 1) cap) S (os ++ [⟨0,none,[]⟩]) M G):=by
     have hg3:w3.grownBy w5 u11.ownBlock:=⟨hgrow.os,hgrow.tape,hgrow.output,Nat.le_trans (by simp) hgrow.size,fun k hk hn=>(hgrow.block k (by simp; omega) hn).trans (Below.heap_alloc _ _ _ hk)⟩
     exact HI3.out.snoc HS3.out rfl css HO1.out.1 HO2.out HO1.out.2.1 HO1.out.2.2 hg3 hown (hat.imp id (fun h=>by omega))
    have HN5:=NXT.out S ⟨0,none,[]⟩ HE3.out
    have HN6:Hid _:=HN5
    clear hown hgrow hat HN5 r0 r1 r2 r3 r4 r5 HB3 HO1 HO2 HO3
    go_wp2
    refine ⟨⟨i + 1,M,G,by go_num,h1,?_⟩,by simp [intOf]; omega⟩
    rw [HN6.out]
    exact h5
  ·as_aux_lemma =>
   have hii:i=xs.length:=by omega
   subst hii
   obtain ⟨k0,k1,k2,_⟩:=HI.out.ds
   have e0:=k0.c
   have e2:=k2.c
   have hlen:(runP l (K.rr rs) ⟨words,-1,false,false,[]⟩ xs).1.disk.length=words.length:=runP_dl l (K.rr rs) xs _
   rw [List.take_length] at HI e0
   rw [hlen] at e0
   clear k0 k1 k2
   go_wp2
   go_region
   go_wp2
   have hbe:Below w.heap.size w wr:=by
    have q1:=HBW.out
    have q2:=HI.out.be
    exact ⟨q2.os.trans q1.os,q2.tape.trans q1.tape,q2.output.trans q1.output,Nat.le_trans q1.size q2.size,fun k hk=>(q2.block k (by omega)).trans (q1.block k (by omega))⟩
   exact bodyPost_ret (v:=.tuple #[u11,.slice (some ⟨bw,0,none⟩) words.length c,.bool true]) (by simp [results,Tryz.results7,go_sem]) rfl ⟨W0,w1.heap.size,bw,_,c,_,_,_,_,M,G,rfl,rfl,hbe.drew,HI.out.at (Below.refl _ _).drew⟩
end Go.Proofs.YtpmioeamdhdokaaGreat
