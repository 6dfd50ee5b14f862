import Derived.Test.YtdceajgpolckiaaGreatDoorQs30
import Derived.Test.YtdceajgpolckiaaGreatDoorQs16
import Derived.Deep.DeepCutAuto
open Go.Proofs.Tryz
set_option linter.unusedSimpArgs false
set_option maxHeartbeats 16000000
set_option maxRecDepth 100000
namespace Go.Proofs.YtdceajgpolckiaaGreatDoor
namespace K.P
open Go.RowKit Go.Shelf K.Ds
theorem anQ:∀ (l:List UInt8),0<l.count 0->∃ j:Nat,Lib.indexByte l 0=(j:Int)/\j<l.length/\(l.take (j+1)).filter (·≠0)=l.take j/\(l.drop (j+1)).count 0+1=l.count 0
 | [],h=>by simp at h
 | b::l,h=>by
  by_cases hb:b=0
  ·subst hb
   exact⟨0,by simp[Lib.indexByte],by simp,by simp,by simp⟩
  ·have hc:(b::l).count 0=l.count 0:=by simp[hb]
   obtain⟨j,h1,h2,h3,h4⟩:=anQ l (by omega);have hm:¬ (j:Int) = -1:=by omega
   refine⟨j+1,?_,by simp;omega,?_,?_⟩
   ·simp[Lib.indexByte,hb,h1,hm]
   ·rw[List.take_succ_cons,List.filter_cons_of_pos (by simpa using hb),h3,List.take_succ_cons]
   ·rw[List.drop_succ_cons,h4,hc]
theorem anX {l:List UInt8}(h:l.count 0=0):l.filter (·≠0)=l:=by
 rw[List.filter_eq_self];intro a ha;have:=List.count_eq_zero.1 h;simp only[ne_eq,decide_not,Bool.not_eq_eq_eq_not,Bool.not_true,decide_eq_false_iff_not];rintro rfl;exact this ha
theorem c7J (s:ByteArray)(hs:s.size<=32)(w:World) :
  Calls prog 209 #[.string s,.string ⟨#[0]⟩,.string ⟨#[]⟩,.int .i64 (-1)] w fun e w'=>e=.returned (.string ⟨(s.data.toList.filter (·≠0)).toArray⟩)/\Below w.heap.size w w':=by
 obtain⟨zs,hzs⟩:∃ zs,s.data.toList=zs:=⟨_,rfl⟩;have hlen:zs.length=s.size:=by rw[<-hzs];simp
 obtain⟨K,hK⟩:∃ K,zs.count 0=K:=⟨_,rfl⟩;have hKs:K<=s.size:=by rw[<-hK,<-hlen];exact List.count_le_length
 have kc:=fun W=>Any.strings_Count_one { Tryz.lays154 with } s 0 W;rw[show Lib.countByte s.data.toList 0=K by rw[hzs];exact hK] at kc;have HZ:Hid (s.data.toList=zs):=hzs;have HK:Hid (zs.count 0=K):=hK;have hne:((⟨#[0]⟩:ByteArray) == ⟨#[]⟩)=false:=by decide
 rw[hzs];clear hzs hK;by_cases h0:K=0
 ·subst h0
  have he:(⟨(zs.filter (·≠0)).toArray⟩:ByteArray)=s:=by
   rw[anX HK.out,<-HZ.out]
  rw[he];clear he;go_enter func209,ntmps209;go_wp2_with (go_at_call 238;refine(kc _).mono ?_;rintro e w' ⟨rfl,hw⟩;rw[hw]);go_ret;exact⟨rfl,uQ _ _⟩
 ·have hk0:((K:Int) == 0)=false:=by simpa using h0
  obtain⟨g,hg⟩:∃ g,s.size - K=g:=⟨_,rfl⟩;have hga:(s.size:Int) + -(K:Int)=(g:Int):=by omega
  have HGA:Hid ((s.size:Int) + -(K:Int)=(g:Int)):=hga;have kg:=Any.Builder_Grow_fresh { Tryz.lays154 with } Tryz.Builder_Extra_154 w.heap.size w.heap.size g (w.alloc (.cells #[.pointer none,.slice none 0 0] 324)) (jQ _) (zR w _) (by simp) (by omega);clear hg hga;go_enter func209,ntmps209;go_wp2_with (go_at_call 238;refine(kc _).mono ?_;rintro e w' ⟨rfl,hw⟩;rw[hw]);rw[HGA.out];refine kg.mono ?_;rintro e w1 ⟨rfl,hb0,hb1⟩;have H1:Hid (Lib.IsBuilder 324 5 w.heap.size w.heap.size (Lib.byteCells ((zs.take 0).filter (·≠0))) w1):=Or.inr hb0;have HB1:Hid (Below w.heap.size w w1):=((uQ w.heap.size w).alloc (jQ _) _).trans hb1;clear hb0 hb1 kg kc HGA;go_wp2_with fail
  go_loopw [11,53] (fun t11 t53 wx=>∃ (i st:Nat),t53=.int .i64 (i:Int)/\t11=.int .i64 (st:Int)/\i<=K/\st<=s.size/\Hid (Lib.IsBuilder 324 5 w.heap.size w.heap.size (Lib.byteCells ((zs.take st).filter (·≠0))) wx)/\Hid (Below w.heap.size w wx)/\Hid ((zs.drop st).count 0+i=K)) (fun _ t53 _=>K - (intOf t53).toNat)
  case atStart=>exact⟨0,0,rfl,rfl,mQ _,mQ _,H1,HB1,HK⟩
  case round =>
   obtain⟨i,st,rfl,rfl,hi,hst,HB,HW,HC⟩:=hrel;have hBw:w.heap.size<=wr.heap.size:=HW.out.size;have c1:(0:Int)<=(st:Int):=by omega
   have c2:(st:Int)<=(s.size:Int):=by omega
   have hfl:((zs.take st).filter (·≠0)).length<=32:=by
    have:=List.length_filter_le (·≠0) (zs.take st);rw[dU] at this;omega
   by_cases h1:i<K
   ·obtain⟨j,hj,hjl,hj3,hj4⟩:=anQ (zs.drop st) (by have:=HC.out;omega)
    rw[uK] at hjl;have c3:(st:Int)<=(st:Int)+(j:Int):=by omega
    have c4:(st:Int)+(j:Int)<=(s.size:Int):=by omega
    have hiK:(i:Int)<(K:Int):=by omega
    have ki:=fun W=>Any.strings_Index_one { Tryz.lays154 with } (s.extract st s.size) 0 W;rw[Lib.extract_to_end,HZ.out,hj] at ki
    have hnx:(zs.take (st+j+1)).filter (·≠0)=(zs.take st).filter (·≠0)++(zs.drop st).take j:=by
     rw[show st+j+1=st+(j+1) by omega,List.take_add,rL,hj3]
    have HNX:Hid (Lib.byteCells ((zs.take st).filter (·≠0))++Lib.strCells (s.extract st (st+j))++Lib.strCells ⟨#[]⟩=Lib.byteCells ((zs.take (st+j+1)).filter (·≠0))):=by
     rw[Hid,hnx,Lib.strCells_eq,Lib.strCells_eq,Lib.extract_data,Nat.add_sub_cancel_left,HZ.out,Lib.byteCells_append];simp[Lib.byteCells]
    have HCN:Hid ((zs.drop (st+j+1)).count 0+(i+1)=K):=by
     have h:=HC.out;rw[List.drop_drop,show st+(j+1)=st+j+1 by omega] at hj4;rw[Hid];omega
    clear hj hj3 hj4 hnx;go_wp2_with (go_at_call 240;refine(ki _).mono ?_;rintro e w' ⟨rfl,hw⟩;rw[hw]);refine(Any.Builder_WriteString { Tryz.lays154 with } Tryz.Builder_Extra_154 w.heap.size w.heap.size _ (s.extract st (st+j)) wr HB.out (by rw[Lib.byteCells_length,ByteArray.size_extract];omega) hBw).mono ?_;rintro e w3 ⟨rfl,h3,hb3⟩;have H3:Hid (Lib.BuilderAt 324 5 w.heap.size w.heap.size (.pointer (some ⟨w.heap.size,0,none⟩)) (Lib.byteCells ((zs.take st).filter (·≠0))++Lib.strCells (s.extract st (st+j))) w3):=h3;have HB3:Hid (Below w.heap.size w w3):=HW.out.trans hb3;have hBw3:w.heap.size<=w3.heap.size:=HB3.out.size;clear h3 hb3;go_wp2_with fail;refine(Any.Builder_WriteString { Tryz.lays154 with } Tryz.Builder_Extra_154 w.heap.size w.heap.size _ ⟨#[]⟩ w3 (Or.inr H3.out) (by rw[yA,Lib.byteCells_length,Lib.strCells_length,ByteArray.size_extract];show _+0<=_;omega) hBw3).mono ?_;rintro e w4 ⟨rfl,h4,hb4⟩;rw[HNX.out] at h4;have H4:Hid (Lib.IsBuilder 324 5 w.heap.size w.heap.size (Lib.byteCells ((zs.take (st+j+1)).filter (·≠0))) w4):=Or.inr h4;have HB4:Hid (Below w.heap.size w w4):=HB3.out.trans hb4;clear h4 hb4 ki H3 HB3 HB HW HC HNX;go_wp2
    go_roundw
    ·exact⟨i+1,st+j+1,by go_num,by go_num,h1,by omega,H4,HB4,HCN⟩
    ·simp[intOf];omega
   ·obtain rfl:i=K:=by omega
    have hiK:¬ ((i:Int)<(i:Int)):=by omega
    have hz0:(zs.drop st).count 0=0:=by have:=HC.out;omega
    have HF:Hid (Lib.byteCells ((zs.take st).filter (·≠0))++Lib.strCells (s.extract st s.size)=Lib.byteCells (zs.filter (·≠0))):=by
     rw[Hid,Lib.strCells_eq,Lib.extract_to_end,HZ.out,<-Lib.byteCells_append];congr 1
     conv=>rhs;rw[<-xC st zs,rL,anX hz0]
    clear hz0;go_wp2_with fail;refine(Any.Builder_WriteString { Tryz.lays154 with } Tryz.Builder_Extra_154 w.heap.size w.heap.size _ _ wr HB.out (by rw[Lib.byteCells_length,ByteArray.size_extract];omega) hBw).mono ?_;rintro e w3 ⟨rfl,h3,hb3⟩;rw[HF.out] at h3;have H3:Hid (Lib.IsBuilder 324 5 w.heap.size w.heap.size (Lib.byteCells (zs.filter (·≠0))) w3):=Or.inr h3;have HB3:Hid (Below w.heap.size w w3):=HW.out.trans hb3;clear h3 hb3;go_wp2_with fail;refine(Any.Builder_String_any { Tryz.lays154 with } Tryz.Builder_Extra_154 w.heap.size w.heap.size _ w3 H3.out HB3.out.size).mono ?_;rintro e w5 ⟨rfl,hb5⟩;have HB5:Hid (Below w.heap.size w w5):=HB3.out.trans hb5;clear hb5;go_wp2;go_ret;exact⟨by simp,HB5.out⟩
theorem c8Q (s:ByteArray)(hs:s.size<=32)(w:World) :
  Calls prog 186 #[.string s,.string ⟨#[0]⟩,.string ⟨#[]⟩] w fun e w'=>e=.returned (.string ⟨(s.data.toList.filter (·≠0)).toArray⟩)/\Below w.heap.size w w':=by
 have k:=c7J s hs w;go_enter func186,ntmps186;go_wp2_with fail;refine k.mono ?_;rintro e w1 ⟨rfl,hb⟩;have HB:Hid (Below w.heap.size w w1):=hb;clear hb k;go_wp2;go_ret;exact⟨by simp,HB.out⟩
theorem c8X (bs:List Nat)(h:∀ b∈bs,b<256):((bs.map UInt8.ofNat).filter (·≠0))=(bs.filter (·≠0)).map UInt8.ofNat:=by
 induction bs with
 | nil=>rfl
 | cons b bs ih =>
  have hb:=h b (by simp)
  have e:(UInt8.ofNat b=0)↔b=0:=by
   constructor
   ·intro h0
    have:=congrArg UInt8.toNat h0;rwa [UInt8.toNat_ofNat_of_lt' hb] at this
   ·rintro rfl;rfl
  rw[bH];by_cases c:b=0
  ·subst c
   rw[List.filter_cons_of_neg (by simp),List.filter_cons_of_neg (by simp),ih (fun x hx=>h x (by simp[hx]))]
  ·rw[List.filter_cons_of_pos (by simpa using fun h0=>c (e.1 h0)),List.filter_cons_of_pos (by simpa using c),bH,ih (fun x hx=>h x (by simp[hx]))]
theorem c8Z (x0 x1 x2 x3 x4 x5 x6 x7 x8:Int)(w:World) :
  Calls prog 151 #[.agg #[.int .i64 x0,.int .i64 x1,.int .i64 x2,.int .i64 x3,.int .i64 x4,.int .i64 x5,.int .i64 x6,.int .i64 x7,.int .i64 x8]] w fun e w'=>e=.returned (.string (iY (nU [x5,x6,x7,x8])))/\Below w.heap.size w w':=by
 obtain⟨X,hX⟩:∃ X,w.alloc (.cells #[.int .i64 x0,.int .i64 x1,.int .i64 x2,.int .i64 x3,.int .i64 x4,.int .i64 x5,.int .i64 x6,.int .i64 x7,.int .i64 x8] 187)=X:=⟨_,rfl⟩;have HN:Hid (xX X w.heap.size [x0,x1,x2,x3,x4,x5,x6,x7,x8]):=hX▸xX.new _ _ _ _ _ _ _ _ _ 187 rfl;have HB:Hid (Below w.heap.size w X):=hX▸ba _ _;have kb:=c7Z [x0,x1,x2,x3,x4,x5,x6,x7,x8] w.heap.size X rfl HN.out.2;obtain⟨l,hl⟩:∃ l,wby [x0,x1,x2,x3,x4,x5,x6,x7,x8]=l:=⟨_,rfl⟩;have hl32:l.length=32:=by rw[<-hl];exact amZ rfl
 have HLT:Hid (∀ b∈l,b<256):=by rw[<-hl];exact amJ _
 have HNM:Hid (iY (nU [x5,x6,x7,x8])=⟨((iY l).data.toList.filter (·≠0)).toArray⟩):=by
  have h:=c6J [x0,x1,x2,x3,x4,x5,x6,x7,x8];rw[hl] at h;have h2:nU [x5,x6,x7,x8]=l.filter (·≠0):=h;rw[Hid,h2];show(⟨((l.filter (·≠0)).map UInt8.ofNat).toArray⟩:ByteArray)=⟨(((l.map UInt8.ofNat).toArray.toList).filter (·≠0)).toArray⟩;rw[<-c8X l HLT.out]
 have hsz:(iY l).size<=32:=by
  have:(iY l).size=l.length:=by simp[iY,ByteArray.size]
  omega
 have kr:=fun W=>c8Q (iY l) hsz W;rw[hl] at kb;rw[<-HNM.out] at kr;clear hl;go_enter func151,ntmps151;go_wp2_with fail;clear hX;refine kb.mono ?_;rintro e w1 ⟨rfl,hb1⟩;have HB1:Hid (Below w.heap.size w w1):=bt HB.out hb1;clear kb hb1;go_wp2_with fail;refine(kr _).mono ?_;rintro e w2 ⟨rfl,hb2⟩;have HB2:Hid (Below w.heap.size w w2):=bt HB1.out hb2;clear kr hb2;go_wp2;go_ret;exact⟨by simp,HB2.out⟩
end K.P
namespace K.P
open Go.RowKit K.Ds
theorem anZ (xs:Array Value)(i:Nat)(v:Value)(w:World)(h:xs[i]? = some v):(part 2 xs i).run prog w=.ok v w:=by
 unfold part;simp only[Sem.run_bind,Tryz.isAgg2,gI,h,Bool.false_eq_true,yK,sL]
theorem eqL (d:Nat)(X Y:Array Value)(w:World):∀ (n k:Nat) (xs ys:List Int),xs.length=n->ys.length=n->(∀ i x,xs[i]? = some x->X[k+i]? = some (.int .i64 x))->(∀ i y,ys[i]? = some y->Y[k+i]? = some (.int .i64 y)) ->
  (forIn (List.range' k n) ((none,()):Option Bool × Unit) fun i _=>do
    let a <-part 2 X i
    let b <-part 2 Y i
    let e <-Op.equalIn (d+1) 2 a b
    if (!e)=true then pure (ForInStep.done (some false,())) else pure (ForInStep.yield (none,()))).run prog w=.ok (if xs=ys then (none,()) else (some false,())) w
 | 0,k,xs,ys,hx,hy,_,_=>by
  obtain rfl:=bK.1 hx;obtain rfl:=bK.1 hy;simp[sL]
 | n+1,k,x::xs,y::ys,hx,hy,hX,hY=>by
  have ih:=eqL d X Y w n (k+1) xs ys (by simpa using hx) (by simpa using hy) (fun i z hz=>by rw[show k+1+i=k+(i+1) by omega];exact hX (i+1) z (by simpa using hz)) (fun i z hz=>by rw[show k+1+i=k+(i+1) by omega];exact hY (i+1) z (by simpa using hz));have h1:=hX 0 x rfl;have h2:=hY 0 y rfl;rw[eK] at h1 h2;rw[List.range'_succ,List.forIn_cons];simp only[Sem.run_bind,anZ X k _ w h1,anZ Y k _ w h2,gI,run_equalIn_int w d 2 .i64 .i64 x y underlying2];by_cases c:x=y
  ·subst c
   simp only[beq_self_eq_true,Bool.not_true,Bool.false_eq_true,yK,sL,gI];rw[ih];simp
  ·have hb:(x == y)=false:=by simpa using c
   simp[hb,c,sL,gI]
theorem eq9 (w:World)(x0 x1 x2 x3 x4 x5 x6 x7 x8 y0 y1 y2 y3 y4 y5 y6 y7 y8:Int):(binOp .eql 187 (.agg #[.int .i64 x0,.int .i64 x1,.int .i64 x2,.int .i64 x3,.int .i64 x4,.int .i64 x5,.int .i64 x6,.int .i64 x7,.int .i64 x8]) (.agg #[.int .i64 y0,.int .i64 y1,.int .i64 y2,.int .i64 y3,.int .i64 y4,.int .i64 y5,.int .i64 y6,.int .i64 y7,.int .i64 y8])).run prog w=.ok (.bool (decide ([x0,x1,x2,x3,x4,x5,x6,x7,x8]=[y0,y1,y2,y3,y4,y5,y6,y7,y8]))) w:=by
 have key:∀ d:Nat,(Op.equalIn (d+1+1) 187 (.agg #[.int .i64 x0,.int .i64 x1,.int .i64 x2,.int .i64 x3,.int .i64 x4,.int .i64 x5,.int .i64 x6,.int .i64 x7,.int .i64 x8]) (.agg #[.int .i64 y0,.int .i64 y1,.int .i64 y2,.int .i64 y3,.int .i64 y4,.int .i64 y5,.int .i64 y6,.int .i64 y7,.int .i64 y8])).run prog w=.ok (decide ([x0,x1,x2,x3,x4,x5,x6,x7,x8]=[y0,y1,y2,y3,y4,y5,y6,y7,y8])) w:=by
  intro d;rw[Op.equalIn];simp only[Sem.run_bind,run_underlying underlying187,gI,Std.Legacy.Range.forIn_eq_forIn_range',Std.Legacy.Range.size,Nat.sub_zero,Nat.add_one_sub_one,Nat.div_one];rw[Tryz.sizeOf2];simp only[gI,Nat.mul_one]
  rw[eqL d _ _ w 9 0 [x0,x1,x2,x3,x4,x5,x6,x7,x8] [y0,y1,y2,y3,y4,y5,y6,y7,y8] rfl rfl (fun i x hi=>by
   match i,hi with
   | 0,hi | 1,hi | 2,hi | 3,hi | 4,hi | 5,hi | 6,hi | 7,hi | 8,hi=>cases hi;rfl) (fun i x hi=>by
   match i,hi with
   | 0,hi | 1,hi | 2,hi | 3,hi | 4,hi | 5,hi | 6,hi | 7,hi | 8,hi=>cases hi;rfl)]
  by_cases c:[x0,x1,x2,x3,x4,x5,x6,x7,x8]=[y0,y1,y2,y3,y4,y5,y6,y7,y8]
  ·rw[zQ c,uG c];simp[sL,gI]
  ·rw[qQ c,dV c];simp[sL,gI]
 rw[run_eql_struct];have h:=key 9998;rw[show(10000:Nat)=9998+1+1 from rfl,h];rfl
theorem xX.cells {w:World}{b:Nat}{x0 x1 x2 x3 x4 x5 x6 x7 x8:Int}(h:xX w b [x0,x1,x2,x3,x4,x5,x6,x7,x8]):w.cell? ⟨b,0,none⟩=some (.int .i64 x0)/\w.cell? ⟨b,1,none⟩=some (.int .i64 x1)/\w.cell? ⟨b,2,none⟩=some (.int .i64 x2)/\w.cell? ⟨b,3,none⟩=some (.int .i64 x3)/\w.cell? ⟨b,4,none⟩=some (.int .i64 x4)/\w.cell? ⟨b,5,none⟩=some (.int .i64 x5)/\w.cell? ⟨b,6,none⟩=some (.int .i64 x6)/\w.cell? ⟨b,7,none⟩=some (.int .i64 x7)/\w.cell? ⟨b,8,none⟩=some (.int .i64 x8) :=
 ⟨(h.2 0 _ rfl).c,(h.2 1 _ rfl).c,(h.2 2 _ rfl).c,(h.2 3 _ rfl).c,(h.2 4 _ rfl).c,(h.2 5 _ rfl).c,(h.2 6 _ rfl).c,(h.2 7 _ rfl).c,(h.2 8 _ rfl).c⟩
theorem xX.range {w:World}{b:Nat}{x0 x1 x2 x3 x4 x5 x6 x7 x8:Int}(h:xX w b [x0,x1,x2,x3,x4,x5,x6,x7,x8]):w.rangeAt b 0 [.int .i64 x0,.int .i64 x1,.int .i64 x2,.int .i64 x3,.int .i64 x4,.int .i64 x5,.int .i64 x6,.int .i64 x7,.int .i64 x8]:=by
 intro j v hj
 match j,hj with
 | 0,hj | 1,hj | 2,hj | 3,hj | 4,hj | 5,hj | 6,hj | 7,hj | 8,hj=>cases hj;exact(h.2 _ _ rfl).c
theorem aoQ (l:List Nat):(iY l).size=l.length:=by simp[iY,ByteArray.size]
theorem aoX (x5 x6 x7 x8:Int):(nU [x5,x6,x7,x8]).length<=32:=by
 have h:∀ x,((vY 8 (sA x)).filter (·≠0)).length<=8:=fun x=>aQ (List.length_filter_le _ _) (by rw[dP];exact jQ _);have h5:=h x5;have h6:=h x6;have h7:=h x7;have h8:=h x8;simp only[nU,oL,List.flatMap_nil,yG,yA];omega
theorem aoZ (x0 x1 x2 x3 x4 x5 x6 x7 x8:Int):rvl [x0,x1,x2,x3,x4,x5,x6,x7,x8]=.agg #[.int .i64 x0,.int .i64 x1,.int .i64 x2,.int .i64 x3,.int .i64 x4,.int .i64 x5,.int .i64 x6,.int .i64 x7,.int .i64 x8]:=rfl
theorem c9Q {W w3:World}(hb:Below (W.alloc (.cells #[.int .i64 0,.string ⟨#[]⟩,.int .i64 0,.int .i64 0,.int .i64 0] 53)).drew.heap.size (W.alloc (.cells #[.int .i64 0,.string ⟨#[]⟩,.int .i64 0,.int .i64 0,.int .i64 0] 53)).drew w3):FivB w3 W.heap.size (.int .i64 0) (.string ⟨#[]⟩) (.int .i64 0) (.int .i64 0) (.int .i64 0) :=
 ((FivB.new W _ _ _ _ _ 53 _ rfl).below (uQ _ _).drew).below hb
theorem c9X {w:World}{b:Nat}{x0 x1 x2 x3 x4 x5 x6 x7 x8:Int}(h:xX w b [x0,x1,x2,x3,x4,x5,x6,x7,x8]):w.cell? ⟨b,0,none⟩=some (.int .i64 x0)/\w.cell? ⟨b,1,none⟩=some (.int .i64 x1)/\w.cell? ⟨b,2,none⟩=some (.int .i64 x2)/\w.cell? ⟨b,3,none⟩=some (.int .i64 x3)/\w.cell? ⟨b,4,none⟩=some (.int .i64 x4)/\w.cell? ⟨b,5,none⟩=some (.int .i64 x5)/\w.cell? ⟨b,6,none⟩=some (.int .i64 x6)/\w.cell? ⟨b,7,none⟩=some (.int .i64 x7)/\w.cell? ⟨b,8,none⟩=some (.int .i64 x8)/\w.rangeAt b 0 [.int .i64 x0,.int .i64 x1,.int .i64 x2,.int .i64 x3,.int .i64 x4,.int .i64 x5,.int .i64 x6,.int .i64 x7,.int .i64 x8] :=
 have k:=h.cells
 ⟨k.1,k.2.1,k.2.2.1,k.2.2.2.1,k.2.2.2.2.1,k.2.2.2.2.2.1,k.2.2.2.2.2.2.1,k.2.2.2.2.2.2.2.1,k.2.2.2.2.2.2.2.2,h.range⟩
theorem rP {w:World}{b g:Nat}{x0 x1 x2 x3 x4 x5 x6 x7 x8:Int}(h:xX w b [x0,x1,x2,x3,x4,x5,x6,x7,x8])(hne:g≠b)(u0 u1 u2 u3 u4:Value):xX (((((w.setCell ⟨g,0,none⟩ u0).setCell ⟨g,1,none⟩ u1).setCell ⟨g,2,none⟩ u2).setCell ⟨g,3,none⟩ u3).setCell ⟨g,4,none⟩ u4) b [x0,x1,x2,x3,x4,x5,x6,x7,x8] :=
 ((((h.oth hne _).oth hne _).oth hne _).oth hne _).oth hne _
theorem aoJ {w:World}{b g:Nat}{x0 x1 x2 x3 x4 x5 x6 x7 x8:Int}{a0 a1 a2 a3 a4:Value}(h:xX w b [x0,x1,x2,x3,x4,x5,x6,x7,x8])(k:FivB w g a0 a1 a2 a3 a4):w.cell? ⟨g,0,none⟩=some a0/\w.cell? ⟨g,1,none⟩=some a1/\w.cell? ⟨g,2,none⟩=some a2/\w.cell? ⟨g,3,none⟩=some a3/\w.cell? ⟨g,4,none⟩=some a4/\w.rangeAt b 0 [.int .i64 x0,.int .i64 x1,.int .i64 x2,.int .i64 x3,.int .i64 x4,.int .i64 x5,.int .i64 x6,.int .i64 x7,.int .i64 x8] :=
 ⟨k.c0,k.c1,k.c2,k.c3,k.c4,h.range⟩
theorem kB {w:World}{b g:Nat}{a0 a1 a2 a3 a4:Value}(h:FivB w b a0 a1 a2 a3 a4)(hne:g≠b)(u0 u1 u2 u3 u4:Value):FivB (((((w.setCell ⟨g,0,none⟩ u0).setCell ⟨g,1,none⟩ u1).setCell ⟨g,2,none⟩ u2).setCell ⟨g,3,none⟩ u3).setCell ⟨g,4,none⟩ u4) b a0 a1 a2 a3 a4 :=
 h.gb (sQ (sQ (sQ (sQ (sQ (cX _ (some g)) _ _) _ _) _ _) _ _) _ _) (by simpa using fun e=>hne e.symm)
theorem rM {w:World}{b:Nat}{a0 a1 a2 a3 a4:Value}(h:FivB w b a0 a1 a2 a3 a4)(u0 u1 u2 u3 u4:Value):FivB (((((w.setCell ⟨b,0,none⟩ u0).setCell ⟨b,1,none⟩ u1).setCell ⟨b,2,none⟩ u2).setCell ⟨b,3,none⟩ u3).setCell ⟨b,4,none⟩ u4) b u0 u1 u2 u3 u4:=by
 obtain⟨c0,c1,c2,c3,c4,f0,f1,f2,f3,f4,hl⟩:=h;constructor <;> simp[vN,yN,gV,c0,c1,c2,c3,c4,f0,f1,f2,f3,f4,hl,go_sem]
theorem c9Z (x0 x1 x2 x3 x4 x5 x6 x7 x8:Int)(w:World)(e:En)(he:(x1,iY (nU [x5,x6,x7,x8]),x2,x3,x4)=e)(r:Bool)(hr:decide ([x0,x1,x2,x3,x4,x5,x6,x7,x8]=yZ e)=r) :
  Calls prog 95 #[.agg #[.int .i64 x0,.int .i64 x1,.int .i64 x2,.int .i64 x3,.int .i64 x4,.int .i64 x5,.int .i64 x6,.int .i64 x7,.int .i64 x8]] w fun x w'=>x=.returned (.tuple #[ev e,.bool r])/\Below w.heap.size w w':=by
 obtain⟨nm,hnm⟩:∃ nm,iY (nU [x5,x6,x7,x8])=nm:=⟨_,rfl⟩;rw[hnm] at he;subst he;have hs:nm.size<=32:=by rw[<-hnm,aoQ];exact aoX _ _ _ _
 have kn:∀ W,xX W w.heap.size [x0,x1,x2,x3,x4,x5,x6,x7,x8]->Calls prog 151 #[.agg #[.int .i64 x0,.int .i64 x1,.int .i64 x2,.int .i64 x3,.int .i64 x4,.int .i64 x5,.int .i64 x6,.int .i64 x7,.int .i64 x8]] W fun e w'=>e=.returned (.string nm)/\Below W.heap.size W w'/\xX w' w.heap.size [x0,x1,x2,x3,x4,x5,x6,x7,x8]:=fun W hW=>(c8Z x0 x1 x2 x3 x4 x5 x6 x7 x8 W).mono (by rintro e w' ⟨h1,h2⟩;rw[hnm] at h1;exact⟨h1,h2,hW.at h2⟩);clear hnm;obtain⟨y0,y1,y2,y3,y4,y5,y6,y7,y8,hy⟩:=pM (lM (x1,nm,x2,x3,x4));rw[hy] at hr
 have kr:∀ W,Calls prog 97 #[.agg #[.int .i64 x1,.string nm,.int .i64 x2,.int .i64 x3,.int .i64 x4]] W fun x w'=>x=.returned (.agg #[.int .i64 y0,.int .i64 y1,.int .i64 y2,.int .i64 y3,.int .i64 y4,.int .i64 y5,.int .i64 y6,.int .i64 y7,.int .i64 y8])/\Below W.heap.size W w':=fun W=>by
  have h:=alX (x1,nm,x2,x3,x4) hs W;rw[hy,aoZ] at h;exact h
 clear hy;have hq:=eq9 (x0:=x0) (x1:=x1) (x2:=x2) (x3:=x3) (x4:=x4) (x5:=x5) (x6:=x6) (x7:=x7) (x8:=x8) (y0:=y0) (y1:=y1) (y2:=y2) (y3:=y3) (y4:=y4) (y5:=y5) (y6:=y6) (y7:=y7) (y8:=y8);simp only[hr] at hq;clear hr;obtain⟨W,hW⟩:∃ W,(w.alloc (.cells #[.int .i64 x0,.int .i64 x1,.int .i64 x2,.int .i64 x3,.int .i64 x4,.int .i64 x5,.int .i64 x6,.int .i64 x7,.int .i64 x8] 187)).alloc (.cells #[.int .i64 0,.string ⟨#[]⟩,.int .i64 0,.int .i64 0,.int .i64 0] 53)=W:=⟨_,rfl⟩;have hWs:W.heap.size=w.heap.size+1+1:=by rw[<-hW];simp
 have hbW:Below w.heap.size w W:=hW▸bal (ba _ _) _;have HN:xX W w.heap.size [x0,x1,x2,x3,x4,x5,x6,x7,x8]:=hW▸(xX.new _ _ _ _ _ _ _ _ _ 187 rfl).at (ba _ _);have HR:Hid (FivB W (w.heap.size+1) (.int .i64 0) (.string ⟨#[]⟩) (.int .i64 0) (.int .i64 0) (.int .i64 0)):=hW▸FivB.new _ _ _ _ _ _ 53 _ (by simp);obtain⟨c0,c1,c2,c3,c4,c5,c6,c7,c8⟩:=HN.cells;have hrg:W.drew.rangeAt w.heap.size 0 [.int .i64 x0,.int .i64 x1,.int .i64 x2,.int .i64 x3,.int .i64 x4,.int .i64 x5,.int .i64 x6,.int .i64 x7,.int .i64 x8]:=HN.drew.range;have hu6:=underlying187;have hi6:(prog.info? 187).map (·.size)=some ([.int .i64 x0,.int .i64 x1,.int .i64 x2,.int .i64 x3,.int .i64 x4,.int .i64 x5,.int .i64 x6,.int .i64 x7,.int .i64 x8]:List Value).length:=by kernel_rfl
 have HNE:Hid (W.heap.size≠w.heap.size):=by show _≠_;omega
 have H1:Hid (xX W.drew w.heap.size [x0,x1,x2,x3,x4,x5,x6,x7,x8]):=HN.drew;have H2:Hid (∀ o,xX (W.alloc o).drew w.heap.size [x0,x1,x2,x3,x4,x5,x6,x7,x8]):=fun o=>(HN.at (ba _ _)).drew;have HWS:Hid (W.heap.size=w.heap.size+1+1):=hWs;clear hWs;go_enter func95,ntmps95;go_wp2;clear hW HN
 go_region_held3 (fun w'=>w'.cell? ⟨w.heap.size,0,none⟩=some (.int .i64 x0)/\w'.cell? ⟨w.heap.size,1,none⟩=some (.int .i64 x1)/\w'.cell? ⟨w.heap.size,2,none⟩=some (.int .i64 x2)/\w'.cell? ⟨w.heap.size,3,none⟩=some (.int .i64 x3)/\w'.cell? ⟨w.heap.size,4,none⟩=some (.int .i64 x4)/\w'.cell? ⟨w.heap.size,5,none⟩=some (.int .i64 x5)/\w'.cell? ⟨w.heap.size,6,none⟩=some (.int .i64 x6)/\w'.cell? ⟨w.heap.size,7,none⟩=some (.int .i64 x7)/\w'.cell? ⟨w.heap.size,8,none⟩=some (.int .i64 x8)/\w'.rangeAt w.heap.size 0 [.int .i64 x0,.int .i64 x1,.int .i64 x2,.int .i64 x3,.int .i64 x4,.int .i64 x5,.int .i64 x6,.int .i64 x7,.int .i64 x8])
  ((refine c9X ?_;first|with_reducible exact H1.out|with_reducible exact H2.out _|with_reducible exact hN3|with_reducible exact hN3.at (ba _ _)|(with_reducible exact five_oth hN3 _ _ _ _ _ _)|(with_reducible exact rP hN3 HNE.out _ _ _ _ _)))
  (first
   | (go_at_call 151;refine(kn _ ?_).mono ?_;(with_reducible exact H2.out _);rintro x3 w3 ⟨rfl,hb3,hN3⟩;obtain⟨z0,z1,z2,z3,z4,z5,z6,z7,z8⟩:=hN3.cells;have zr:=hN3.range;obtain⟨s0,s1,s2,s3,s4,g0,g1,g2,g3,g4,hsl⟩:=c9Q hb3)
   | (go_at_call 151;refine(kn _ ?_).mono ?_;(with_reducible exact H1.out);rintro x3 w3 ⟨rfl,hb3,hN3⟩;obtain⟨z0,z1,z2,z3,z4,z5,z6,z7,z8⟩:=hN3.cells;have zr:=hN3.range))
 ·have hsz3:W.heap.size<=w3.heap.size:=by have:=hb3.size;simp at this;omega
  have hb3':Below w.heap.size w w3:=bt hbW.drew hb3;have HR3:=(HR.out.below (uQ _ _).drew).below hb3;have hg1:w3.heap.size≠w.heap.size+1:=by have:=HWS.out;omega
  have XN0:xX (w3.alloc (.cells #[.int .i64 x1,.string nm,.int .i64 x2,.int .i64 x3,.int .i64 x4] 53)) w.heap.size [x0,x1,x2,x3,x4,x5,x6,x7,x8]:=hN3.at (ba _ _);have XF0:FivB (w3.alloc (.cells #[.int .i64 x1,.string nm,.int .i64 x2,.int .i64 x3,.int .i64 x4] 53)) w3.heap.size (.int .i64 x1) (.string nm) (.int .i64 x2) (.int .i64 x3) (.int .i64 x4):=FivB.new w3 _ _ _ _ _ 53 _ rfl;have XR0:FivB (w3.alloc (.cells #[.int .i64 x1,.string nm,.int .i64 x2,.int .i64 x3,.int .i64 x4] 53)) (w.heap.size+1) (.int .i64 0) (.string ⟨#[]⟩) (.int .i64 0) (.int .i64 0) (.int .i64 0):=HR3.below (ba _ _);have XB0:Below w.heap.size w (w3.alloc (.cells #[.int .i64 x1,.string nm,.int .i64 x2,.int .i64 x3,.int .i64 x4] 53)):=bal hb3' _;generalize hX:w3.alloc (.cells #[.int .i64 x1,.string nm,.int .i64 x2,.int .i64 x3,.int .i64 x4] 53)=X at XN0 XF0 XR0 XB0 ⊢;generalize hgd:w3.heap.size=g at XF0 hg1 ⊢;have XN:=XN0;have XF:=XF0;have XR:=XR0;have XB:Below w.heap.size w X:=XB0;have hE1:Hid (w.heap.size+1≠w.heap.size):=by show _≠_;omega
  have hG1:Hid (w.heap.size+1≠g):=by show _≠_;omega
  clear hX hgd hN3 hb3 z0 z1 z2 z3 z4 z5 z6 z7 z8 zr H1 H2 hrg c0 c1 c2 c3 c4 c5 c6 c7 c8 XN0 XF0 XR0 XB0 HR;have hgs:g<X.heap.size:=XF.lt;have ka:∀ W,xX W w.heap.size [x0,x1,x2,x3,x4,x5,x6,x7,x8]->FivB W g (.int .i64 x1) (.string nm) (.int .i64 x2) (.int .i64 x3) (.int .i64 x4)->FivB W (w.heap.size+1) (.int .i64 0) (.string ⟨#[]⟩) (.int .i64 0) (.int .i64 0) (.int .i64 0)->Calls prog 97 #[.agg #[.int .i64 x1,.string nm,.int .i64 x2,.int .i64 x3,.int .i64 x4]] W fun x w'=>x=.returned (.agg #[.int .i64 y0,.int .i64 y1,.int .i64 y2,.int .i64 y3,.int .i64 y4,.int .i64 y5,.int .i64 y6,.int .i64 y7,.int .i64 y8])/\Below W.heap.size W w'/\xX w' w.heap.size [x0,x1,x2,x3,x4,x5,x6,x7,x8]/\FivB w' g (.int .i64 x1) (.string nm) (.int .i64 x2) (.int .i64 x3) (.int .i64 x4)/\FivB w' (w.heap.size+1) (.int .i64 0) (.string ⟨#[]⟩) (.int .i64 0) (.int .i64 0) (.int .i64 0):=fun W h1 h2 h3=>(kr W).mono (by rintro e w' ⟨k1,k2⟩;exact⟨k1,k2,h1.at k2,h2.below k2,h3.below k2⟩);have I1:Hid (xX X.drew w.heap.size [x0,x1,x2,x3,x4,x5,x6,x7,x8]):=XN.drew;have I2:Hid (FivB X.drew g (.int .i64 x1) (.string nm) (.int .i64 x2) (.int .i64 x3) (.int .i64 x4)):=XF.below (uQ _ _).drew;have I3:Hid (FivB X.drew (w.heap.size+1) (.int .i64 0) (.string ⟨#[]⟩) (.int .i64 0) (.int .i64 0) (.int .i64 0)):=XR.below (uQ _ _).drew;have hrx:X.drew.rangeAt w.heap.size 0 [.int .i64 x0,.int .i64 x1,.int .i64 x2,.int .i64 x3,.int .i64 x4,.int .i64 x5,.int .i64 x6,.int .i64 x7,.int .i64 x8]:=I1.out.range;obtain⟨v0,v1,v2,v3,v4,_,_,_,_,_,_⟩:=id XF;clear kr kn XN XF XR;go_wp2_with fail
  go_region_held3 (fun w'=>w'.cell? ⟨g,0,none⟩=some (.int .i64 x1)/\w'.cell? ⟨g,1,none⟩=some (.string nm)/\w'.cell? ⟨g,2,none⟩=some (.int .i64 x2)/\w'.cell? ⟨g,3,none⟩=some (.int .i64 x3)/\w'.cell? ⟨g,4,none⟩=some (.int .i64 x4)/\w'.rangeAt w.heap.size 0 [.int .i64 x0,.int .i64 x1,.int .i64 x2,.int .i64 x3,.int .i64 x4,.int .i64 x5,.int .i64 x6,.int .i64 x7,.int .i64 x8])
   ((refine aoJ ?_ ?_;(first|with_reducible exact I1.out|with_reducible exact hN4|with_reducible exact rP hN4 hE1.out _ _ _ _ _);(first|with_reducible exact I2.out|with_reducible exact hF4|with_reducible exact kB hF4 hG1.out _ _ _ _ _)))
   ((go_at_call 97;refine(ka _ I1.out I2.out I3.out).mono ?_;rintro x4 w4 ⟨rfl,hb4,hN4,hF4,hR4⟩;obtain⟨p0,p1,p2,p3,p4,_,_,_,_,_,_⟩:=id hF4;obtain⟨q0,q1,q2,q3,q4,f0,f1,f2,f3,f4,_⟩:=id hR4;have zr4:=hN4.range))
  have BX:Below w.heap.size w w4:=bt XB.drew hb4;have FR:=rM hR4 (.int .i64 x1) (.string nm) (.int .i64 x2) (.int .i64 x3) (.int .i64 x4);go_wp2;obtain⟨r0,r1,r2,r3,r4,_,_,_,_,_,_⟩:=FR;refine yQ (v:=.tuple #[.agg #[.int .i64 x1,.string nm,.int .i64 x2,.int .i64 x3,.int .i64 x4],.bool r]) ?_ rfl ⟨rfl,?_⟩
  ·simp[results,results95,go_sem,r0,r1,r2,r3,r4]
  ·exact bs (bs (bs (bs (bs BX (by simp) _) (by simp) _) (by simp) _) (by simp) _) (by simp) _
 ·have hsz3:W.heap.size<=w3.heap.size:=by have:=hb3.size;simp at this;omega
  have hb3':Below w.heap.size w w3:=bt (bal hbW _).drew hb3;have HR3:=((HR.out.below (ba _ _)).below (uQ _ _).drew).below hb3;have hg1:W.heap.size≠w.heap.size+1:=by have:=HWS.out;omega
  have XN0:xX (((((w3.setCell ⟨W.heap.size,0,none⟩ (.int .i64 x1)).setCell ⟨W.heap.size,1,none⟩ (.string nm)).setCell ⟨W.heap.size,2,none⟩ (.int .i64 x2)).setCell ⟨W.heap.size,3,none⟩ (.int .i64 x3)).setCell ⟨W.heap.size,4,none⟩ (.int .i64 x4)) w.heap.size [x0,x1,x2,x3,x4,x5,x6,x7,x8]:=rP hN3 HNE.out _ _ _ _ _;have XF0:FivB (((((w3.setCell ⟨W.heap.size,0,none⟩ (.int .i64 x1)).setCell ⟨W.heap.size,1,none⟩ (.string nm)).setCell ⟨W.heap.size,2,none⟩ (.int .i64 x2)).setCell ⟨W.heap.size,3,none⟩ (.int .i64 x3)).setCell ⟨W.heap.size,4,none⟩ (.int .i64 x4)) W.heap.size (.int .i64 x1) (.string nm) (.int .i64 x2) (.int .i64 x3) (.int .i64 x4):=rM ⟨s0,s1,s2,s3,s4,g0,g1,g2,g3,g4,hsl⟩ _ _ _ _ _;have XR0:FivB (((((w3.setCell ⟨W.heap.size,0,none⟩ (.int .i64 x1)).setCell ⟨W.heap.size,1,none⟩ (.string nm)).setCell ⟨W.heap.size,2,none⟩ (.int .i64 x2)).setCell ⟨W.heap.size,3,none⟩ (.int .i64 x3)).setCell ⟨W.heap.size,4,none⟩ (.int .i64 x4)) (w.heap.size+1) (.int .i64 0) (.string ⟨#[]⟩) (.int .i64 0) (.int .i64 0) (.int .i64 0):=kB HR3 (by have:=HWS.out;omega) _ _ _ _ _;have XB0:Below w.heap.size w (((((w3.setCell ⟨W.heap.size,0,none⟩ (.int .i64 x1)).setCell ⟨W.heap.size,1,none⟩ (.string nm)).setCell ⟨W.heap.size,2,none⟩ (.int .i64 x2)).setCell ⟨W.heap.size,3,none⟩ (.int .i64 x3)).setCell ⟨W.heap.size,4,none⟩ (.int .i64 x4)):=bs (bs (bs (bs (bs hb3' (by simp;have:=hbW.size;omega) _) (by simp;have:=hbW.size;omega) _) (by simp;have:=hbW.size;omega) _) (by simp;have:=hbW.size;omega) _) (by simp;have:=hbW.size;omega) _;generalize hX:((((w3.setCell ⟨W.heap.size,0,none⟩ (.int .i64 x1)).setCell ⟨W.heap.size,1,none⟩ (.string nm)).setCell ⟨W.heap.size,2,none⟩ (.int .i64 x2)).setCell ⟨W.heap.size,3,none⟩ (.int .i64 x3)).setCell ⟨W.heap.size,4,none⟩ (.int .i64 x4)=X at XN0 XF0 XR0 XB0 ⊢;generalize hgd:W.heap.size=g at XF0 hg1 ⊢;have XN:=XN0;have XF:=XF0;have XR:=XR0;have XB:Below w.heap.size w X:=XB0;have hE1:Hid (w.heap.size+1≠w.heap.size):=by show _≠_;omega
  have hG1:Hid (w.heap.size+1≠g):=by show _≠_;omega
  clear hX hgd hN3 hb3 z0 z1 z2 z3 z4 z5 z6 z7 z8 zr H1 H2 hrg c0 c1 c2 c3 c4 c5 c6 c7 c8 XN0 XF0 XR0 XB0 HR;have hgs:g<X.heap.size:=XF.lt;have ka:∀ W,xX W w.heap.size [x0,x1,x2,x3,x4,x5,x6,x7,x8]->FivB W g (.int .i64 x1) (.string nm) (.int .i64 x2) (.int .i64 x3) (.int .i64 x4)->FivB W (w.heap.size+1) (.int .i64 0) (.string ⟨#[]⟩) (.int .i64 0) (.int .i64 0) (.int .i64 0)->Calls prog 97 #[.agg #[.int .i64 x1,.string nm,.int .i64 x2,.int .i64 x3,.int .i64 x4]] W fun x w'=>x=.returned (.agg #[.int .i64 y0,.int .i64 y1,.int .i64 y2,.int .i64 y3,.int .i64 y4,.int .i64 y5,.int .i64 y6,.int .i64 y7,.int .i64 y8])/\Below W.heap.size W w'/\xX w' w.heap.size [x0,x1,x2,x3,x4,x5,x6,x7,x8]/\FivB w' g (.int .i64 x1) (.string nm) (.int .i64 x2) (.int .i64 x3) (.int .i64 x4)/\FivB w' (w.heap.size+1) (.int .i64 0) (.string ⟨#[]⟩) (.int .i64 0) (.int .i64 0) (.int .i64 0):=fun W h1 h2 h3=>(kr W).mono (by rintro e w' ⟨k1,k2⟩;exact⟨k1,k2,h1.at k2,h2.below k2,h3.below k2⟩);have I1:Hid (xX X.drew w.heap.size [x0,x1,x2,x3,x4,x5,x6,x7,x8]):=XN.drew;have I2:Hid (FivB X.drew g (.int .i64 x1) (.string nm) (.int .i64 x2) (.int .i64 x3) (.int .i64 x4)):=XF.below (uQ _ _).drew;have I3:Hid (FivB X.drew (w.heap.size+1) (.int .i64 0) (.string ⟨#[]⟩) (.int .i64 0) (.int .i64 0) (.int .i64 0)):=XR.below (uQ _ _).drew;have hrx:X.drew.rangeAt w.heap.size 0 [.int .i64 x0,.int .i64 x1,.int .i64 x2,.int .i64 x3,.int .i64 x4,.int .i64 x5,.int .i64 x6,.int .i64 x7,.int .i64 x8]:=I1.out.range;obtain⟨v0,v1,v2,v3,v4,_,_,_,_,_,_⟩:=id XF;clear kr kn XN XF XR;go_wp2_with fail
  go_region_held3 (fun w'=>w'.cell? ⟨g,0,none⟩=some (.int .i64 x1)/\w'.cell? ⟨g,1,none⟩=some (.string nm)/\w'.cell? ⟨g,2,none⟩=some (.int .i64 x2)/\w'.cell? ⟨g,3,none⟩=some (.int .i64 x3)/\w'.cell? ⟨g,4,none⟩=some (.int .i64 x4)/\w'.rangeAt w.heap.size 0 [.int .i64 x0,.int .i64 x1,.int .i64 x2,.int .i64 x3,.int .i64 x4,.int .i64 x5,.int .i64 x6,.int .i64 x7,.int .i64 x8])
   ((refine aoJ ?_ ?_;(first|with_reducible exact I1.out|with_reducible exact hN4|with_reducible exact rP hN4 hE1.out _ _ _ _ _);(first|with_reducible exact I2.out|with_reducible exact hF4|with_reducible exact kB hF4 hG1.out _ _ _ _ _)))
   ((go_at_call 97;refine(ka _ I1.out I2.out I3.out).mono ?_;rintro x4 w4 ⟨rfl,hb4,hN4,hF4,hR4⟩;obtain⟨p0,p1,p2,p3,p4,_,_,_,_,_,_⟩:=id hF4;obtain⟨q0,q1,q2,q3,q4,f0,f1,f2,f3,f4,_⟩:=id hR4;have zr4:=hN4.range))
  have BX:Below w.heap.size w w4:=bt XB.drew hb4;have FR:=rM hR4 (.int .i64 x1) (.string nm) (.int .i64 x2) (.int .i64 x3) (.int .i64 x4);go_wp2;obtain⟨r0,r1,r2,r3,r4,_,_,_,_,_,_⟩:=FR;refine yQ (v:=.tuple #[.agg #[.int .i64 x1,.string nm,.int .i64 x2,.int .i64 x3,.int .i64 x4],.bool r]) ?_ rfl ⟨rfl,?_⟩
  ·simp[results,results95,go_sem,r0,r1,r2,r3,r4]
  ·exact bs (bs (bs (bs (bs BX (by simp) _) (by simp) _) (by simp) _) (by simp) _) (by simp) _
structure HouC (w:World) (bh bd:Nat) (cv rv:Value) (bk:Nat) (n:Int) (brk:Bool):Prop where
 c0:Cl w bh 0 cv
 c1:Cl w bh 1 rv
 c2:Cl w bh 2 (.pointer (some ⟨bk,0,none⟩))
 c3:Cl w bh 3 (.iface 85 (.pointer (some ⟨bd,0,none⟩)))
 c4:Cl w bh 4 (.int .i64 n)
 c5:Cl w bh 5 (.bool brk)
theorem HouC.kp {w w':World}{bh bd:Nat}{cv rv:Value}{bk:Nat}{n:Int}{brk:Bool}{N:Nat->Prop}(h:HouC w bh bd cv rv bk n brk)(hk:Keeps w w' N)(hn:¬ N bh):HouC w' bh bd cv rv bk n brk :=
 ⟨lV h.c0 hk hn,lV h.c1 hk hn,lV h.c2 hk hn,lV h.c3 hk hn,lV h.c4 hk hn,lV h.c5 hk hn⟩
theorem HouC.at {w w':World}{bh bd:Nat}{cv rv:Value}{bk:Nat}{n:Int}{brk:Bool}(h:HouC w bh bd cv rv bk n brk)(hb:Below w.heap.size w w'):HouC w' bh bd cv rv bk n brk :=
 h.kp (N:=fun _=>False) (nQ hb) (fun h=>h)
theorem HouC.s4 {w:World}{bh bd:Nat}{cv rv:Value}{bk:Nat}{n:Int}{brk:Bool}(h:HouC w bh bd cv rv bk n brk)(m:Int):HouC (w.setCell ⟨bh,4,none⟩ (.int .i64 m)) bh bd cv rv bk m brk :=
 ⟨h.c0.oth (.inr (by decide)) _,h.c1.oth (.inr (by decide)) _,h.c2.oth (.inr (by decide)) _,h.c3.oth (.inr (by decide)) _,h.c4.set _,h.c5.oth (.inr (by decide)) _⟩
theorem apQ (bh bd:Nat)(cv rv:Value)(bk n m:Nat)(brk:Bool)(w:World)(h:HouC w bh bd cv rv bk n brk)(hn:n<=4096)(hm:9*n=m) :
  Calls prog 150 #[.pointer (some ⟨bh,0,none⟩)] w fun e w'=>e=.returned (.int .i64 (m:Int))/\w' = w:=by
 have m4:=h.c4.c;have hw:IntKind.i64.wrap ((n:Int)*9)=(m:Int):=by rw[sY];omega
 have H:Hid ((n:Int)*9=(m:Int)):=by show _=_;omega
 clear h hm;go_enter func150,ntmps150;go_wp2;go_ret;exact⟨congrArg (fun z=>Ending.returned (Value.int .i64 z)) (by first|exact H.out|rfl),rfl⟩
theorem apX (bh bd bw:Nat)(cv rv:Value)(bk n:Nat)(brk:Bool)(a:Option Addr)(c:Nat)(disk:List Int)(left:Int)(w:World)(h:HouC w bh bd cv rv bk n brk)(hd:DskM w bd bw a c disk left)(hn:n<=4096)(r:Bool)(hr:decide (9*n+9<=disk.length)=r) :
  Calls prog 93 #[.pointer (some ⟨bh,0,none⟩)] w fun e w'=>e=.returned (.bool r)/\Below w.heap.size w w':=by
 have ks:=fun W (hW:DskM W bd bw a c disk left)=>c0Q bd bw a c disk left W hW;have hm : ∀ w : World, (method 475 85 (.pointer (some ⟨bd, 0, none⟩)) "Size").run prog w = .ok (300, .pointer (some ⟨bd, 0, none⟩)) w := fun _ => by kernel_rfl
 have m4:=h.c4.c;have m3:=h.c3.c;have HD:Hid (∀ q,DskM (w.drewN q) bd bw a c disk left):=fun q=>hd.at (below_drewN (uQ _ _) q);have hw1:IntKind.i64.wrap ((n:Int)+1)=(n:Int)+1:=by rw[sY];omega
 have hw2:IntKind.i64.wrap (((n:Int)+1)*9)=((n:Int)+1)*9:=by rw[sY];omega
 have hq:decide (((n:Int)+1)*9<=(disk.length:Int))=r:=by rw[<-hr];exact decide_eq_decide.2 (by omega)
 clear hr h hd;go_enter func93,ntmps93;go_wp2_with fail;go_quiet ((go_at_call 300;refine Calls.quiet_of_same (ks _ ?_);first|exact HD.out _|exact HD.out 0));go_wp2;go_ret;exact⟨rfl,below_drewN (uQ _ _) _⟩
def gL (l:List Int) (i:Nat):List Int:=l.take i++List.replicate (9 - i) 0
theorem c9J {l:List Int}(hl:l.length=9){i:Nat}(hi:i<9){x:Int}(hx:l[i]? = some x):(gL l i).set i x=gL l (i+1):=by
 unfold gL;have h1:(l.take i).length=i:=by rw[dU];omega
 rw[nN _ _ (by omega),h1,iI,nZ,hx,show 9 - i=(9 - (i+1))+1 by omega,List.replicate_succ];simp
theorem apZ {disk:List Int}{n i:Nat}(hi:i<9):(rcd disk n)[i]? = disk[9*n+i]?:=by
 unfold rcd;rw[gH hi,iF]
theorem lB {disk:List Int}{n:Nat}(h:9*n+9<=disk.length):(rcd disk n).length=9:=by
 unfold rcd;rw[dU,uK];omega
theorem daQ (bh bd bw:Nat)(cv rv:Value)(bk n:Nat)(brk:Bool)(a:Option Addr)(c:Nat)(disk:List Int)(left:Int)(w:World)(h:HouC w bh bd cv rv bk n brk)(hd:DskM w bd bw a c disk left)(hn:n<=4096)(hr:9*n+9<=disk.length)(x0 x1 x2 x3 x4 x5 x6 x7 x8:Int)(hx:rcd disk n=[x0,x1,x2,x3,x4,x5,x6,x7,x8]) :
  Calls prog 94 #[.pointer (some ⟨bh,0,none⟩)] w fun e w'=>e=.returned (.agg #[.int .i64 x0,.int .i64 x1,.int .i64 x2,.int .i64 x3,.int .i64 x4,.int .i64 x5,.int .i64 x6,.int .i64 x7,.int .i64 x8])/\Below w.heap.size w w':=by
 have HH:Hid (HouC w bh bd cv rv bk n brk):=h;have HD:Hid (DskM w bd bw a c disk left):=hd;have HX:Hid (rcd disk n=[x0,x1,x2,x3,x4,x5,x6,x7,x8]):=hx;have hm : ∀ w : World, (method 475 85 (.pointer (some ⟨bd, 0, none⟩)) "Get").run prog w = .ok (298, .pointer (some ⟨bd, 0, none⟩)) w := fun _ => by kernel_rfl
 obtain⟨m,hmm⟩:∃ m,9*n=m:=⟨_,rfl⟩;have HM:Hid (9*n=m):=hmm;have HRL:Hid (9*n+9<=disk.length):=hr;have hm9:m<=40000:=by omega
 clear h hd hx hmm hr;go_enter func94,ntmps94;go_wp2
 go_loopw [5] (fun t wr=>∃ (i:Nat),t=.int .i64 (i:Int)/\i<=9/\Hid (xX wr (w.heap.size+1) (gL (rcd disk n) i))/\Hid (Below w.heap.size w wr)/\Hid (xX wr w.heap.size [0,0,0,0,0,0,0,0,0])) (fun t _=>9 - (intOf t).toNat)
 case atStart =>
  exact⟨0,rfl,mQ _,xX.new _ _ _ _ _ _ _ _ _ 187 (by simp),bal (ba _ _) _,(xX.new _ _ _ _ _ _ _ _ _ 187 rfl).at (ba _ _)⟩
 case round =>
  obtain⟨i,rfl,hi,HN,HW,HZ⟩:=hrel;by_cases h1:i<9
  ·obtain⟨x,hxi⟩:∃ x,(rcd disk n)[i]? = some x:=⟨_,fZ (by rw[lB HRL.out];exact h1)⟩
   obtain⟨j,hj⟩:∃ j,m+i=j:=⟨_,rfl⟩;have hdx:disk[j]? = some x:=by rw[<-hj,<-HM.out,<-apZ h1];exact hxi
   have hw1:IntKind.i64.wrap ((m:Int)+(i:Int))=(j:Int):=by rw[sY];omega
   have HHr:HouC wr bh bd cv rv bk n brk:=HH.out.at HW.out;have HDr:DskM wr bd bw a c disk left:=HD.out.at HW.out;have m3:=HHr.c3.c;have ks:∀ W,HouC W bh bd cv rv bk n brk->_:=fun W hW=>apQ bh bd cv rv bk n m brk W hW hn HM.out;have kg:∀ W,DskM W bd bw a c disk left->_:=fun W hW=>c0X bd bw a c disk left j x W hW hdx;have I1:Hid (HouC wr.drew bh bd cv rv bk n brk):=HHr.at (uQ _ _).drew;have I2:Hid (DskM wr.drew bd bw a c disk left):=HDr.at (uQ _ _).drew;obtain⟨y,hy⟩:∃ y,(gL (rcd disk n) i)[i]? = some y:=⟨_,fZ (by rw[HN.out.1];exact h1)⟩;have m1:=(HN.out.2 i y hy).c;have m2:=(HN.out.2 i y hy).f;have hi9:(i:Int)<9:=by omega
   have FN:Hid (xX (wr.setCell ⟨w.heap.size+1,i,none⟩ (.int .i64 x)).drew (w.heap.size+1) (gL (rcd disk n) (i+1))):=by
    rw[<-c9J (lB HRL.out) h1 hxi];exact(HN.out.set h1 _).drew
   have FW:Hid (Below w.heap.size w (wr.setCell ⟨w.heap.size+1,i,none⟩ (.int .i64 x)).drew):=(bs HW.out (by simp) _).drew;have FZ:Hid (xX (wr.setCell ⟨w.heap.size+1,i,none⟩ (.int .i64 x)).drew w.heap.size [0,0,0,0,0,0,0,0,0]):=(HZ.out.oth (by omega) _).drew;clear hxi hj hdx HHr HDr hy;go_wp2_with fail
   go_region_law (first
    | (go_simp;go_at_call 150;refine(ks _ I1.out).mono ?_;rintro e w' ⟨rfl,rfl⟩;go_wp2_with fail)
    | (go_simp;go_at_call 298;refine(kg _ I2.out).mono ?_;rintro e w' ⟨rfl,rfl⟩;go_wp2_with fail))
   all_goals
    go_wp2
    go_roundw
    ·exact⟨i+1,by go_num,h1,FN,FW,FZ⟩
    ·simp[intOf];omega
  ·obtain rfl:i=9:=by omega
   have HN2:xX wr (w.heap.size+1) [x0,x1,x2,x3,x4,x5,x6,x7,x8]:=by
    have h:=HN.out;rw[HX.out] at h;exact h
   obtain⟨a0,a1,a2,a3,a4,a5,a6,a7,a8⟩:=HN2.cells;obtain⟨z0,z1,z2,z3,z4,z5,z6,z7,z8⟩:=HZ.out.nine;have HZ9:=(((((((((HZ.out.set (i:=0) (by decide) x0).set (i:=1) (by decide) x1).set (i:=2) (by decide) x2).set (i:=3) (by decide) x3).set (i:=4) (by decide) x4).set (i:=5) (by decide) x5).set (i:=6) (by decide) x6).set (i:=7) (by decide) x7).set (i:=8) (by decide) x8);have FZ:Hid (xX _ w.heap.size [x0,x1,x2,x3,x4,x5,x6,x7,x8]):=HZ9;obtain⟨c0,f0,l0⟩:=z0;obtain⟨c1,f1,_⟩:=z1;obtain⟨c2,f2,_⟩:=z2;obtain⟨c3,f3,_⟩:=z3;obtain⟨c4,f4,_⟩:=z4;obtain⟨c5,f5,_⟩:=z5;obtain⟨c6,f6,_⟩:=z6;obtain⟨c7,f7,_⟩:=z7;obtain⟨c8,f8,_⟩:=z8;clear HZ9 HN HN2;go_wp2;obtain⟨r0,r1,r2,r3,r4,r5,r6,r7,r8⟩:=FZ.out.cells;refine yQ (v:=.agg #[.int .i64 x0,.int .i64 x1,.int .i64 x2,.int .i64 x3,.int .i64 x4,.int .i64 x5,.int .i64 x6,.int .i64 x7,.int .i64 x8]) ?_ rfl ⟨rfl,?_⟩
   ·simp[results,results94,go_sem,r0,r1,r2,r3,r4,r5,r6,r7,r8]
   ·exact bs (bs (bs (bs (bs (bs (bs (bs (bs HW.out (by simp) _) (by simp) _) (by simp) _) (by simp) _) (by simp) _) (by simp) _) (by simp) _) (by simp) _) (by simp) _
