import Derived.Test.YtdceajgpolckiaaGreatDoorQr37
import Derived.Test.YtdceajgpolckiaaGreatDoorQr17
import Derived.Laws.IdiomStrings
import Derived.Deep.DeepCutAuto
open Go.Proofs.Tryz
set_option linter.unusedSimpArgs false
set_option maxHeartbeats 16000000
set_option maxRecDepth 100000
namespace Go.Proofs.YtdceajgpolckiaaGreatDoor
variable {l:List Int} {b bh bk g i:Nat} {n x x0 x1 x2 x3 x4 x5 x6 x7 x8:Int} {W w w' w3:World} {a0 a1 a2 a3 a4 cv:Value} {brk:Bool} {N:Nat->Prop}
namespace K.P
open Go.RowKit K.Ds
def wby (l:List Int):List Nat:=(l.drop 5).flatMap fun x=>nU 8 (zD x)
theorem bnX {α:Type}(f:α->List Nat)(h8:∀ x,(f x).length=8):∀ (ls:List α) (q r:Nat),r<8->(ls.flatMap f)[8*q+r]? = (ls[q]?).bind fun x=>(f x)[r]?
 | [],q,r,_=>by simp
 | x::ls,0,r,hr=>by
  rw[mN,qT (by rw[h8];omega)];simp
 | x::ls,q+1,r,hr=>by
  rw[mN,jF (by rw[h8];omega),h8,show 8*(q+1)+r - 8=8*q+r by omega,bnX f h8 ls q r hr];simp
theorem eiJ (hx:l[5+i / 8]? = some x):(wby l)[i]? = some ((nU 8 (zD x)).getD (i % 8) 0):=by
 have h:=bnX (fun x=>nU 8 (zD x)) (fun x=>xC _ _) (l.drop 5) (i / 8) (i % 8) (by omega);rw[show 8*(i / 8)+i % 8=i by omega,yK,hx] at h;rw[wby,h];simp only[Option.bind_some];rw[List.getD,zJ (by rw[xC];omega)];rfl
theorem bnZ (h:l.length=9):(wby l).length=32:=by
 obtain⟨x0,x1,x2,x3,x4,x5,x6,x7,x8,rfl⟩:=vS h;simp[wby,xC]
theorem bnJ (l:List Int):∀ b∈wby l,b<256:=by
 intro b hb;obtain⟨x,_,hx⟩:=nN.1 hb;exact dvJ _ _ b hx
theorem ejQ (l:List Int):vG (l.drop 5)=(wby l).filter (·≠0):=by
 unfold vG wby;rw[List.filter_flatMap]
theorem ejX:(prog.info? 5).map (fun i=>(i.zero,i.size,i.bytes))=some (some (.int .u8 0),1,1):=by kernel_rfl
def BB (w:World) (b:Nat) (l:List Nat):Prop:=∀ k x,l[k]? = some x->Cl w b k (.int .u8 ((x:Nat):Int))
theorem BB.set {l:List Nat}(h:BB w b l)(hi:i<l.length)(x:Nat):BB (w.setCell ⟨b,i,none⟩ (.int .u8 (x:Int))) b (l.set i x):=by
 intro k y hy;by_cases c:i=k
 ·subst c
  rw[sA hi] at hy;cases hy;obtain⟨z,hz⟩:∃ z,l[i]? = some z:=⟨_,zJ hi⟩;exact(h i z hz).set _
 ·rw[oG c] at hy
  exact(h k y hy).oth (.inr c) _
theorem BB.drew {l:List Nat}(h:BB w b l):BB w.drew b l:=fun k x hx=>Cl.drew' (h k x hx)
theorem ejZ {bs:List Nat}{n:Nat}(h:bs[i]? = some b)(hn:bs.length=n):bs.take (i+1)++List.replicate (n - (i+1)) 0=(bs.take i++List.replicate (n - i) 0).set i b:=by
 have hi:i<bs.length:=(cQ.1 h).1;rw[sP _ _ (by rw[lA];omega),lA,Nat.min_eq_left (by omega),dM];obtain⟨k,hk⟩:∃ k,n - i=k+1:=⟨n - i - 1,by omega⟩;rw[hk,show n - (i+1)=k by omega,List.replicate_succ,List.set_cons_zero,fZ,h];simp
theorem ejJ (l:List Int)(B:Nat)(w:World)(hl:l.length=9)(hB:∀ k x,l[k]? = some x->Cl w B k (.int .i64 x)) :
  Calls prog 187 #[.slice (some ⟨B,5,none⟩) 4 4] w fun e w'=>e=.returned (.string (qA (wby l)))/\Below w.heap.size w w':=by
 have H32:Hid ((wby l).length=32/\l.length=9):=⟨bnZ hl,hl⟩;have HBX:Hid (iX w B l):=⟨hl,hB⟩;have hBl:B<w.heap.size:=(hB 0 (l[0]'(by omega)) (zJ (by omega))).lt;clear hl hB;have hmk:∀ u:World,(Instr.makeSlice 279 (.int .i64 32) (.int .i64 32)).run prog u=.ok (.slice (some ⟨u.heap.size,0,none⟩) 32 32) (u.alloc (.cells (madeCells #[.int .u8 0] 32) 5)):=run_make_row' (P:=prog) 279 5 (.int .u8 0) 1 underlying279 ejX rfl .i64 .i64 32 (by decide) (by decide)
 have HA:Hid (BB (w.alloc (.cells (madeCells #[.int .u8 0] 32) 5)) w.heap.size ((wby l).take 0++List.replicate (32 - 0) 0)):=by
  intro k x hx;have hk:k<32:=by have:=(cQ.1 hx).1;simpa using this
  obtain rfl:x=0:=by
   rw[List.take_zero,tN,xT,zQ hk] at hx;cases hx;rfl
  refine Cl.new _ 5 k _ rfl ?_;rw[<-Array.getElem?_toList,toList_madeCells_one,xT,zQ hk];rfl
 go_enter func187,ntmps187;go_wp2;clear hmk
 go_loopw [11] (fun t wr=>∃ (i:Nat),t=.int .i64 (i:Int)/\i<=32/\Hid (BB wr w.heap.size ((wby l).take i++List.replicate (32 - i) 0))/\Hid (Below w.heap.size w wr)) (fun t _=>32 - (intOf t).toNat)
 case atStart=>exact⟨0,rfl,kQ _,HA,ba _ _⟩
 case round =>
  obtain⟨i,rfl,hi,HN,HW⟩:=hrel;by_cases h1:i<32
  ·obtain⟨q,hq⟩:∃ q,i / 8=q:=⟨_,rfl⟩
   obtain⟨k,hk⟩:∃ k,k=8*(7 - i % 8):=⟨_,rfl⟩;have kf:=fun W=>bkQ i k h1 hk W;have hq4:q<4:=by omega
   have hqi:(i:Int) / 8=(q:Int):=by omega
   have hq4i:(q:Int)<4:=by omega
   have hw1:IntKind.i64.wrap (q:Int)=(q:Int):=by rw[sU];omega
   obtain⟨x,hx⟩:∃ x,l[5+q]? = some x:=⟨_,zJ (by have:=H32.out.2;omega)⟩;have m1:=((HBX.out.2 (5+q) x hx).at HW.out).c;have hk56:k<=56:=by omega
   obtain⟨b,hbd⟩:∃ b,(nU 8 (zD x)).getD (i % 8) 0=b:=⟨_,rfl⟩;have hb:IntKind.u8.wrap (x / 2 ^ k)=(b:Int):=by rw[hk,eaZ x (i % 8) (by omega),hbd]
   have hgb:(wby l)[i]? = some b:=by rw[eiJ (x:=x) (by rw[hq];exact hx),hbd]
   obtain⟨z,hz⟩:∃ z,((wby l).take i++List.replicate (32 - i) 0)[i]? = some z:=⟨_,zJ (by have:=H32.out.1;simp;omega)⟩;have hc:=HN.out i z hz;have m2:=hc.c;have m3:=hc.f;have hst:=ejZ hgb H32.out.1
   have FN:Hid (BB (wr.setCell ⟨w.heap.size,i,none⟩ (.int .u8 (b:Int))).drew w.heap.size ((wby l).take (i+1)++List.replicate (32 - (i+1)) 0)):=by
    rw[hst];exact(HN.out.set (cQ.1 hz).1 _).drew
   have FW:Hid (Below w.heap.size w (wr.setCell ⟨w.heap.size,i,none⟩ (.int .u8 (b:Int))).drew):=(bs HW.out (by simp) _).drew;clear hx hq hk hst hc hz hgb hbd;go_wp2_with fail
   go_region_law (go_simp;go_at_call 189;refine(kf _).mono ?_;rintro e w' ⟨rfl,rfl⟩;go_wp2_with fail)
   all_goals
    go_wp2
    go_roundw
    ·exact⟨i+1,by go_num,h1,FN,FW⟩
    ·simp[intOf];omega
  ·obtain rfl:i=32:=by omega
   have HN2:Hid (BB wr w.heap.size (wby l)):=by
    have h:=HN.out;rw[rJ (by rw[H32.out.1];exact vQ _)] at h;rw[Hid];simpa using h
   have hcv:(convert 279 9 (.slice (some ⟨w.heap.size,0,none⟩) 32 32)).run prog wr=.ok (.string (qA (wby l))) wr:=by
    obtain⟨fs,hfs⟩:∃ fs,wby l=fs:=⟨_,rfl⟩;have hlt:∀ b∈fs,b<256:=fun b hb=>bnJ l b (by rw[hfs];exact hb);have hO:=HN2.out;have hC:=H32.out.1;rw[hfs] at hO hC ⊢;have hn:32=(fs.map UInt8.ofNat).length:=by rw[uU,hC]
    show(convert 279 9 (.slice (some ⟨w.heap.size,0,none⟩) 32 32)).run prog wr=.ok (.string ⟨(fs.map UInt8.ofNat).toArray⟩) wr
    have key:=run_convert_bytes_back wr 279 9 5 ⟨w.heap.size,0,none⟩ 32 (fs.map UInt8.ofNat) underlying279 underlying5 underlying9 fun j hj=>by
     have hj2:j<fs.length:=by simpa using hj
     have e:(UInt8.ofNat fs[j]).toNat=fs[j]:=UInt8.toNat_ofNat_of_lt' (hlt _ (List.getElem_mem hj2));rw[List.getElem_map,e,iU,xZ];exact(hO j _ (zJ hj2)).c
    rw[<-hn] at key;exact key
   go_wp2;go_ret;exact⟨rfl,HW.out⟩
end K.P
namespace K.P
open Go.RowKit Go.Shelf K.Ds
theorem boQ:∀ (l:List UInt8),0<l.count 0->∃ j:Nat,Lib.indexByte l 0=(j:Int)/\j<l.length/\(l.take (j+1)).filter (·≠0)=l.take j/\(l.drop (j+1)).count 0+1=l.count 0
 | [],h=>by simp at h
 | b::l,h=>by
  by_cases hb:b=0
  ·subst hb
   exact⟨0,by simp[Lib.indexByte],by simp,by simp,by simp⟩
  ·have hc:(b::l).count 0=l.count 0:=by simp[hb]
   obtain⟨j,h1,h2,h3,h4⟩:=boQ l (by omega);have hm:¬ (j:Int) = -1:=by omega
   refine⟨j+1,?_,by simp;omega,?_,?_⟩
   ·simp[Lib.indexByte,hb,h1,hm]
   ·rw[List.take_succ_cons,List.filter_cons_of_pos (by simpa using hb),h3,List.take_succ_cons]
   ·rw[List.drop_succ_cons,h4,hc]
theorem boX {l:List UInt8}(h:l.count 0=0):l.filter (·≠0)=l:=by
 rw[List.filter_eq_self];intro a ha;have:=List.count_eq_zero.1 h;simp only[ne_eq,decide_not,Bool.not_eq_eq_eq_not,Bool.not_true,decide_eq_false_iff_not];rintro rfl;exact this ha
theorem ekQ (s:ByteArray)(hs:s.size<=32)(w:World) :
  Calls prog 209 #[.string s,.string ⟨#[0]⟩,.string ⟨#[]⟩,.int .i64 (-1)] w fun e w'=>e=.returned (.string ⟨(s.data.toList.filter (·≠0)).toArray⟩)/\Below w.heap.size w w':=by
 obtain⟨zs,hzs⟩:∃ zs,s.data.toList=zs:=⟨_,rfl⟩;have hlen:zs.length=s.size:=by rw[<-hzs];simp
 obtain⟨K,hK⟩:∃ K,zs.count 0=K:=⟨_,rfl⟩;have hKs:K<=s.size:=by rw[<-hK,<-hlen];exact List.count_le_length
 have kc:=fun W=>Any.strings_Count_one { Tryz.lays154 with } s 0 W;rw[show Lib.countByte s.data.toList 0=K by rw[hzs];exact hK] at kc;have HZ:=qQ hzs;have HK:=qQ hK;have hne:((⟨#[0]⟩:ByteArray) == ⟨#[]⟩)=false:=by decide
 rw[hzs];clear hzs hK;by_cases h0:K=0
 ·subst h0
  have he:(⟨(zs.filter (·≠0)).toArray⟩:ByteArray)=s:=by
   rw[boX HK.out,<-HZ.out]
  rw[he];clear he;go_enter func209,ntmps209;go_wp2_with (go_at_call 238;refine(kc _).mono ?_;rintro e w' ⟨rfl,hw⟩;rw[hw]);go_ret;exact⟨rfl,aQ _ _⟩
 ·have hk0:((K:Int) == 0)=false:=by simpa using h0
  obtain⟨g,hg⟩:∃ g,s.size - K=g:=⟨_,rfl⟩;have hga:(s.size:Int) + -(K:Int)=(g:Int):=by omega
  have HGA:=qQ hga;have kg:=Any.Builder_Grow_fresh { Tryz.lays154 with } Tryz.Builder_Extra_154 w.heap.size w.heap.size g (w.alloc (.cells #[.pointer none,.slice none 0 0] 324)) (vQ _) (dP w _) (by simp) (by omega);clear hg hga;go_enter func209,ntmps209;go_wp2_with (go_at_call 238;refine(kc _).mono ?_;rintro e w' ⟨rfl,hw⟩;rw[hw]);rw[HGA.out];refine kg.mono ?_;rintro e w1 ⟨rfl,hb0,hb1⟩;have H1:Hid (Lib.IsBuilder 324 5 w.heap.size w.heap.size (Lib.byteCells ((zs.take 0).filter (·≠0))) w1):=Or.inr hb0;have HB1:Hid (Below w.heap.size w w1):=((aQ w.heap.size w).alloc (vQ _) _).trans hb1;clear hb0 hb1 kg kc HGA;go_wp2_with fail
  go_loopw [11,53] (fun t11 t53 wx=>∃ (i st:Nat),t53=.int .i64 (i:Int)/\t11=.int .i64 (st:Int)/\i<=K/\st<=s.size/\Hid (Lib.IsBuilder 324 5 w.heap.size w.heap.size (Lib.byteCells ((zs.take st).filter (·≠0))) wx)/\Hid (Below w.heap.size w wx)/\Hid ((zs.drop st).count 0+i=K)) (fun _ t53 _=>K - (intOf t53).toNat)
  case atStart=>exact⟨0,0,rfl,rfl,kQ _,kQ _,H1,HB1,HK⟩
  case round =>
   obtain⟨i,st,rfl,rfl,hi,hst,HB,HW,HC⟩:=hrel;have hBw:w.heap.size<=wr.heap.size:=HW.out.size;have c1:(0:Int)<=(st:Int):=by omega
   have c2:(st:Int)<=(s.size:Int):=by omega
   have hfl:((zs.take st).filter (·≠0)).length<=32:=by
    have:=List.length_filter_le (·≠0) (zs.take st);rw[lA] at this;omega
   by_cases h1:i<K
   ·obtain⟨j,hj,hjl,hj3,hj4⟩:=boQ (zs.drop st) (by have:=HC.out;omega)
    rw[iN] at hjl;have c3:(st:Int)<=(st:Int)+(j:Int):=by omega
    have c4:(st:Int)+(j:Int)<=(s.size:Int):=by omega
    have hiK:(i:Int)<(K:Int):=by omega
    have ki:=fun W=>Any.strings_Index_one { Tryz.lays154 with } (s.extract st s.size) 0 W;rw[Lib.extract_to_end,HZ.out,hj] at ki
    have hnx:(zs.take (st+j+1)).filter (·≠0)=(zs.take st).filter (·≠0)++(zs.drop st).take j:=by
     rw[show st+j+1=st+(j+1) by omega,List.take_add,lP,hj3]
    have HNX:Hid (Lib.byteCells ((zs.take st).filter (·≠0))++Lib.strCells (s.extract st (st+j))++Lib.strCells ⟨#[]⟩=Lib.byteCells ((zs.take (st+j+1)).filter (·≠0))):=by
     rw[Hid,hnx,Lib.strCells_eq,Lib.strCells_eq,Lib.extract_data,Nat.add_sub_cancel_left,HZ.out,Lib.byteCells_append];simp[Lib.byteCells]
    have HCN:Hid ((zs.drop (st+j+1)).count 0+(i+1)=K):=by
     have h:=HC.out;rw[List.drop_drop,show st+(j+1)=st+j+1 by omega] at hj4;rw[Hid];omega
    clear hj hj3 hj4 hnx;go_wp2_with (go_at_call 240;refine(ki _).mono ?_;rintro e w' ⟨rfl,hw⟩;rw[hw]);refine(Any.Builder_WriteString { Tryz.lays154 with } Tryz.Builder_Extra_154 w.heap.size w.heap.size _ (s.extract st (st+j)) wr HB.out (by rw[Lib.byteCells_length,ByteArray.size_extract];omega) hBw).mono ?_;rintro e w3 ⟨rfl,h3,hb3⟩;have H3:=qQ h3;have HB3:=qQ (HW.out.trans hb3);have hBw3:w.heap.size<=w3.heap.size:=HB3.out.size;clear h3 hb3;go_wp2_with fail;refine(Any.Builder_WriteString { Tryz.lays154 with } Tryz.Builder_Extra_154 w.heap.size w.heap.size _ ⟨#[]⟩ w3 (Or.inr H3.out) (by rw[dJ,Lib.byteCells_length,Lib.strCells_length,ByteArray.size_extract];show _+0<=_;omega) hBw3).mono ?_;rintro e w4 ⟨rfl,h4,hb4⟩;rw[HNX.out] at h4;have H4:Hid (Lib.IsBuilder 324 5 w.heap.size w.heap.size (Lib.byteCells ((zs.take (st+j+1)).filter (·≠0))) w4):=Or.inr h4;have HB4:=qQ (HB3.out.trans hb4);clear h4 hb4 ki H3 HB3 HB HW HC HNX;go_wp2
    go_roundw
    ·exact⟨i+1,st+j+1,by go_num,by go_num,h1,by omega,H4,HB4,HCN⟩
    ·simp[intOf];omega
   ·obtain rfl:i=K:=by omega
    have hiK:¬ ((i:Int)<(i:Int)):=by omega
    have hz0:(zs.drop st).count 0=0:=by have:=HC.out;omega
    have HF:Hid (Lib.byteCells ((zs.take st).filter (·≠0))++Lib.strCells (s.extract st s.size)=Lib.byteCells (zs.filter (·≠0))):=by
     rw[Hid,Lib.strCells_eq,Lib.extract_to_end,HZ.out,<-Lib.byteCells_append];congr 1
     conv=>rhs;rw[<-fP st zs,lP,boX hz0]
    clear hz0;go_wp2_with fail;refine(Any.Builder_WriteString { Tryz.lays154 with } Tryz.Builder_Extra_154 w.heap.size w.heap.size _ _ wr HB.out (by rw[Lib.byteCells_length,ByteArray.size_extract];omega) hBw).mono ?_;rintro e w3 ⟨rfl,h3,hb3⟩;rw[HF.out] at h3;have H3:Hid (Lib.IsBuilder 324 5 w.heap.size w.heap.size (Lib.byteCells (zs.filter (·≠0))) w3):=Or.inr h3;have HB3:=qQ (HW.out.trans hb3);clear h3 hb3;go_wp2_with fail;refine(Any.Builder_String_any { Tryz.lays154 with } Tryz.Builder_Extra_154 w.heap.size w.heap.size _ w3 H3.out HB3.out.size).mono ?_;rintro e w5 ⟨rfl,hb5⟩;have HB5:=qQ (HB3.out.trans hb5);clear hb5;go_wp2;go_ret;exact⟨by simp,HB5.out⟩
theorem ekX (s:ByteArray)(hs:s.size<=32)(w:World) :
  Calls prog 186 #[.string s,.string ⟨#[0]⟩,.string ⟨#[]⟩] w fun e w'=>e=.returned (.string ⟨(s.data.toList.filter (·≠0)).toArray⟩)/\Below w.heap.size w w':=by
 have k:=ekQ s hs w;go_enter func186,ntmps186;go_wp2_with fail;refine k.mono ?_;rintro e w1 ⟨rfl,hb⟩;have HB:=qQ hb;clear hb k;go_wp2;go_ret;exact⟨by simp,HB.out⟩
theorem ekZ (bs:List Nat)(h:∀ b∈bs,b<256):((bs.map UInt8.ofNat).filter (·≠0))=(bs.filter (·≠0)).map UInt8.ofNat:=by
 induction bs with
 | nil=>rfl
 | cons b bs ih =>
  have hb:=h b (by simp)
  have e:(UInt8.ofNat b=0)↔b=0:=by
   constructor
   ·intro h0
    have:=congrArg UInt8.toNat h0;rwa [UInt8.toNat_ofNat_of_lt' hb] at this
   ·rintro rfl;rfl
  rw[xV];by_cases c:b=0
  ·subst c
   rw[List.filter_cons_of_neg (by simp),List.filter_cons_of_neg (by simp),ih (fun x hx=>h x (by simp[hx]))]
  ·rw[List.filter_cons_of_pos (by simpa using fun h0=>c (e.1 h0)),List.filter_cons_of_pos (by simpa using c),xV,ih (fun x hx=>h x (by simp[hx]))]
theorem ekJ (x0 x1 x2 x3 x4 x5 x6 x7 x8:Int)(w:World) :
  Calls prog 151 #[.agg #[.int .i64 x0,.int .i64 x1,.int .i64 x2,.int .i64 x3,.int .i64 x4,.int .i64 x5,.int .i64 x6,.int .i64 x7,.int .i64 x8]] w fun e w'=>e=.returned (.string (qA (vG [x5,x6,x7,x8])))/\Below w.heap.size w w':=by
 obtain⟨X,hX⟩:∃ X,w.alloc (.cells #[.int .i64 x0,.int .i64 x1,.int .i64 x2,.int .i64 x3,.int .i64 x4,.int .i64 x5,.int .i64 x6,.int .i64 x7,.int .i64 x8] 187)=X:=⟨_,rfl⟩;have HN:Hid (iX X w.heap.size [x0,x1,x2,x3,x4,x5,x6,x7,x8]):=hX▸iX.new _ _ _ _ _ _ _ _ _ 187 rfl;have HB:Hid (Below w.heap.size w X):=hX▸ba _ _;have kb:=ejJ [x0,x1,x2,x3,x4,x5,x6,x7,x8] w.heap.size X rfl HN.out.2;obtain⟨l,hl⟩:∃ l,wby [x0,x1,x2,x3,x4,x5,x6,x7,x8]=l:=⟨_,rfl⟩;have hl32:l.length=32:=by rw[<-hl];exact bnZ rfl
 have HLT:Hid (∀ b∈l,b<256):=by rw[<-hl];exact bnJ _
 have HNM:Hid (qA (vG [x5,x6,x7,x8])=⟨((qA l).data.toList.filter (·≠0)).toArray⟩):=by
  have h:=ejQ [x0,x1,x2,x3,x4,x5,x6,x7,x8];rw[hl] at h;have h2:vG [x5,x6,x7,x8]=l.filter (·≠0):=h;rw[Hid,h2];show(⟨((l.filter (·≠0)).map UInt8.ofNat).toArray⟩:ByteArray)=⟨(((l.map UInt8.ofNat).toArray.toList).filter (·≠0)).toArray⟩;rw[<-ekZ l HLT.out]
 have hsz:(qA l).size<=32:=by
  have:(qA l).size=l.length:=by simp[qA,ByteArray.size]
  omega
 have kr:=fun W=>ekX (qA l) hsz W;rw[hl] at kb;rw[<-HNM.out] at kr;clear hl;go_enter func151,ntmps151;go_wp2_with fail;clear hX;refine kb.mono ?_;rintro e w1 ⟨rfl,hb1⟩;have HB1:=qQ (bt HB.out hb1);clear kb hb1;go_wp2_with fail;refine(kr _).mono ?_;rintro e w2 ⟨rfl,hb2⟩;have HB2:=qQ (bt HB1.out hb2);clear kr hb2;go_wp2;go_ret;exact⟨by simp,HB2.out⟩
end K.P
namespace K.P
open Go.RowKit K.Ds
theorem boZ (xs:Array Value)(i:Nat)(v:Value)(w:World)(h:xs[i]? = some v):(part 2 xs i).run prog w=.ok v w:=by
 unfold part;simp only[vT,Tryz.isAgg2,bK,h,Bool.false_eq_true,jK,mP]
theorem eqL (d:Nat)(X Y:Array Value)(w:World):∀ (n k:Nat) (xs ys:List Int),xs.length=n->ys.length=n->(∀ i x,xs[i]? = some x->X[k+i]? = some (.int .i64 x))->(∀ i y,ys[i]? = some y->Y[k+i]? = some (.int .i64 y)) ->
  (forIn (List.range' k n) ((none,()):Option Bool × Unit) fun i _=>do
    let a <-part 2 X i
    let b <-part 2 Y i
    let e <-Op.equalIn (d+1) 2 a b
    if (!e)=true then pure (ForInStep.done (some false,())) else pure (ForInStep.yield (none,()))).run prog w=.ok (if xs=ys then (none,()) else (some false,())) w
 | 0,k,xs,ys,hx,hy,_,_=>by
  obtain rfl:=jI.1 hx;obtain rfl:=jI.1 hy;simp[mP]
 | n+1,k,x::xs,y::ys,hx,hy,hX,hY=>by
  have ih:=eqL d X Y w n (k+1) xs ys (by simpa using hx) (by simpa using hy) (fun i z hz=>by rw[show k+1+i=k+(i+1) by omega];exact hX (i+1) z (by simpa using hz)) (fun i z hz=>by rw[show k+1+i=k+(i+1) by omega];exact hY (i+1) z (by simpa using hz));have h1:=hX 0 x rfl;have h2:=hY 0 y rfl;rw[wA] at h1 h2;rw[List.range'_succ,List.forIn_cons];simp only[vT,boZ X k _ w h1,boZ Y k _ w h2,bK,run_equalIn_int w d 2 .i64 .i64 x y underlying2];by_cases c:x=y
  ·subst c
   simp only[beq_self_eq_true,Bool.not_true,Bool.false_eq_true,jK,mP,bK];rw[ih];simp
  ·have hb:(x == y)=false:=by simpa using c
   simp[hb,c,mP,bK]
theorem eq9 (w:World)(x0 x1 x2 x3 x4 x5 x6 x7 x8 y0 y1 y2 y3 y4 y5 y6 y7 y8:Int):(binOp .eql 187 (.agg #[.int .i64 x0,.int .i64 x1,.int .i64 x2,.int .i64 x3,.int .i64 x4,.int .i64 x5,.int .i64 x6,.int .i64 x7,.int .i64 x8]) (.agg #[.int .i64 y0,.int .i64 y1,.int .i64 y2,.int .i64 y3,.int .i64 y4,.int .i64 y5,.int .i64 y6,.int .i64 y7,.int .i64 y8])).run prog w=.ok (.bool (decide ([x0,x1,x2,x3,x4,x5,x6,x7,x8]=[y0,y1,y2,y3,y4,y5,y6,y7,y8]))) w:=by
 have key:∀ d:Nat,(Op.equalIn (d+1+1) 187 (.agg #[.int .i64 x0,.int .i64 x1,.int .i64 x2,.int .i64 x3,.int .i64 x4,.int .i64 x5,.int .i64 x6,.int .i64 x7,.int .i64 x8]) (.agg #[.int .i64 y0,.int .i64 y1,.int .i64 y2,.int .i64 y3,.int .i64 y4,.int .i64 y5,.int .i64 y6,.int .i64 y7,.int .i64 y8])).run prog w=.ok (decide ([x0,x1,x2,x3,x4,x5,x6,x7,x8]=[y0,y1,y2,y3,y4,y5,y6,y7,y8])) w:=by
  intro d;rw[Op.equalIn];simp only[vT,aE underlying187,bK,Std.Legacy.Range.forIn_eq_forIn_range',Std.Legacy.Range.size,Nat.sub_zero,Nat.add_one_sub_one,Nat.div_one];rw[Tryz.sizeOf2];simp only[bK,Nat.mul_one]
  rw[eqL d _ _ w 9 0 [x0,x1,x2,x3,x4,x5,x6,x7,x8] [y0,y1,y2,y3,y4,y5,y6,y7,y8] rfl rfl (fun i x hi=>by
   match i,hi with
   | 0,hi | 1,hi | 2,hi | 3,hi | 4,hi | 5,hi | 6,hi | 7,hi | 8,hi=>cases hi;rfl) (fun i x hi=>by
   match i,hi with
   | 0,hi | 1,hi | 2,hi | 3,hi | 4,hi | 5,hi | 6,hi | 7,hi | 8,hi=>cases hi;rfl)]
  by_cases c:[x0,x1,x2,x3,x4,x5,x6,x7,x8]=[y0,y1,y2,y3,y4,y5,y6,y7,y8]
  ·rw[zQ c,uG c];simp[mP,bK]
  ·rw[xQ c,rV c];simp[mP,bK]
 rw[run_eql_struct];have h:=key 9998;rw[show(10000:Nat)=9998+1+1 from rfl,h];rfl
theorem iX.cells (h:iX w b [x0,x1,x2,x3,x4,x5,x6,x7,x8]):w.cell? ⟨b,0,none⟩=some (.int .i64 x0)/\w.cell? ⟨b,1,none⟩=some (.int .i64 x1)/\w.cell? ⟨b,2,none⟩=some (.int .i64 x2)/\w.cell? ⟨b,3,none⟩=some (.int .i64 x3)/\w.cell? ⟨b,4,none⟩=some (.int .i64 x4)/\w.cell? ⟨b,5,none⟩=some (.int .i64 x5)/\w.cell? ⟨b,6,none⟩=some (.int .i64 x6)/\w.cell? ⟨b,7,none⟩=some (.int .i64 x7)/\w.cell? ⟨b,8,none⟩=some (.int .i64 x8) :=
 ⟨(h.2 0 _ rfl).c,(h.2 1 _ rfl).c,(h.2 2 _ rfl).c,(h.2 3 _ rfl).c,(h.2 4 _ rfl).c,(h.2 5 _ rfl).c,(h.2 6 _ rfl).c,(h.2 7 _ rfl).c,(h.2 8 _ rfl).c⟩
theorem iX.range (h:iX w b [x0,x1,x2,x3,x4,x5,x6,x7,x8]):w.rangeAt b 0 [.int .i64 x0,.int .i64 x1,.int .i64 x2,.int .i64 x3,.int .i64 x4,.int .i64 x5,.int .i64 x6,.int .i64 x7,.int .i64 x8]:=by
 intro j v hj
 match j,hj with
 | 0,hj | 1,hj | 2,hj | 3,hj | 4,hj | 5,hj | 6,hj | 7,hj | 8,hj=>cases hj;exact(h.2 _ _ rfl).c
theorem bpQ (l:List Nat):(qA l).size=l.length:=by simp[qA,ByteArray.size]
theorem bpX (x5 x6 x7 x8:Int):(vG [x5,x6,x7,x8]).length<=32:=by
 have h:∀ x,((nU 8 (zD x)).filter (·≠0)).length<=8:=fun x=>bQ (List.length_filter_le _ _) (by rw[xC];exact vQ _);have h5:=h x5;have h6:=h x6;have h7:=h x7;have h8:=h x8;simp only[vG,mN,List.flatMap_nil,fU,dJ];omega
theorem bpZ (x0 x1 x2 x3 x4 x5 x6 x7 x8:Int):rvl [x0,x1,x2,x3,x4,x5,x6,x7,x8]=.agg #[.int .i64 x0,.int .i64 x1,.int .i64 x2,.int .i64 x3,.int .i64 x4,.int .i64 x5,.int .i64 x6,.int .i64 x7,.int .i64 x8]:=rfl
theorem elX (hb:Below (W.alloc (.cells #[.int .i64 0,.string ⟨#[]⟩,.int .i64 0,.int .i64 0,.int .i64 0] 53)).drew.heap.size (W.alloc (.cells #[.int .i64 0,.string ⟨#[]⟩,.int .i64 0,.int .i64 0,.int .i64 0] 53)).drew w3):FivB w3 W.heap.size (.int .i64 0) (.string ⟨#[]⟩) (.int .i64 0) (.int .i64 0) (.int .i64 0) :=
 ((FivB.new W _ _ _ _ _ 53 _ rfl).below (aQ _ _).drew).below hb
theorem elZ (h:iX w b [x0,x1,x2,x3,x4,x5,x6,x7,x8]):w.cell? ⟨b,0,none⟩=some (.int .i64 x0)/\w.cell? ⟨b,1,none⟩=some (.int .i64 x1)/\w.cell? ⟨b,2,none⟩=some (.int .i64 x2)/\w.cell? ⟨b,3,none⟩=some (.int .i64 x3)/\w.cell? ⟨b,4,none⟩=some (.int .i64 x4)/\w.cell? ⟨b,5,none⟩=some (.int .i64 x5)/\w.cell? ⟨b,6,none⟩=some (.int .i64 x6)/\w.cell? ⟨b,7,none⟩=some (.int .i64 x7)/\w.cell? ⟨b,8,none⟩=some (.int .i64 x8)/\w.rangeAt b 0 [.int .i64 x0,.int .i64 x1,.int .i64 x2,.int .i64 x3,.int .i64 x4,.int .i64 x5,.int .i64 x6,.int .i64 x7,.int .i64 x8] :=
 have k:=h.cells
 ⟨k.1,k.2.1,k.2.2.1,k.2.2.2.1,k.2.2.2.2.1,k.2.2.2.2.2.1,k.2.2.2.2.2.2.1,k.2.2.2.2.2.2.2.1,k.2.2.2.2.2.2.2.2,h.range⟩
theorem fC (h:iX w b [x0,x1,x2,x3,x4,x5,x6,x7,x8])(hne:g≠b)(u0 u1 u2 u3 u4:Value):iX (((((w.setCell ⟨g,0,none⟩ u0).setCell ⟨g,1,none⟩ u1).setCell ⟨g,2,none⟩ u2).setCell ⟨g,3,none⟩ u3).setCell ⟨g,4,none⟩ u4) b [x0,x1,x2,x3,x4,x5,x6,x7,x8] :=
 ((((h.oth hne _).oth hne _).oth hne _).oth hne _).oth hne _
theorem bpJ (h:iX w b [x0,x1,x2,x3,x4,x5,x6,x7,x8])(k:FivB w g a0 a1 a2 a3 a4):w.cell? ⟨g,0,none⟩=some a0/\w.cell? ⟨g,1,none⟩=some a1/\w.cell? ⟨g,2,none⟩=some a2/\w.cell? ⟨g,3,none⟩=some a3/\w.cell? ⟨g,4,none⟩=some a4/\w.rangeAt b 0 [.int .i64 x0,.int .i64 x1,.int .i64 x2,.int .i64 x3,.int .i64 x4,.int .i64 x5,.int .i64 x6,.int .i64 x7,.int .i64 x8] :=
 ⟨k.c0,k.c1,k.c2,k.c3,k.c4,h.range⟩
theorem afX (h:FivB w b a0 a1 a2 a3 a4)(hne:g≠b)(u0 u1 u2 u3 u4:Value):FivB (((((w.setCell ⟨g,0,none⟩ u0).setCell ⟨g,1,none⟩ u1).setCell ⟨g,2,none⟩ u2).setCell ⟨g,3,none⟩ u3).setCell ⟨g,4,none⟩ u4) b a0 a1 a2 a3 a4 :=
 h.gb (nQ (nQ (nQ (nQ (nQ (jX _ (some g)) _ _) _ _) _ _) _ _) _ _) (by simpa using fun e=>hne e.symm)
theorem aS (h:FivB w b a0 a1 a2 a3 a4)(u0 u1 u2 u3 u4:Value):FivB (((((w.setCell ⟨b,0,none⟩ u0).setCell ⟨b,1,none⟩ u1).setCell ⟨b,2,none⟩ u2).setCell ⟨b,3,none⟩ u3).setCell ⟨b,4,none⟩ u4) b u0 u1 u2 u3 u4:=by
 obtain⟨c0,c1,c2,c3,c4,f0,f1,f2,f3,f4,hl⟩:=h;constructor <;> simp[tS,wS,tZ,c0,c1,c2,c3,c4,f0,f1,f2,f3,f4,hl,go_sem]
theorem elJ (x0 x1 x2 x3 x4 x5 x6 x7 x8:Int)(w:World)(e:En)(he:(x1,qA (vG [x5,x6,x7,x8]),x2,x3,x4)=e)(r:Bool)(hr:decide ([x0,x1,x2,x3,x4,x5,x6,x7,x8]=qJ e)=r) :
  Calls prog 95 #[.agg #[.int .i64 x0,.int .i64 x1,.int .i64 x2,.int .i64 x3,.int .i64 x4,.int .i64 x5,.int .i64 x6,.int .i64 x7,.int .i64 x8]] w fun x w'=>x=.returned (.tuple #[ev e,.bool r])/\Below w.heap.size w w':=by
 obtain⟨nm,hnm⟩:∃ nm,qA (vG [x5,x6,x7,x8])=nm:=⟨_,rfl⟩;rw[hnm] at he;subst he;have hs:nm.size<=32:=by rw[<-hnm,bpQ];exact bpX _ _ _ _
 have kn:∀ W,iX W w.heap.size [x0,x1,x2,x3,x4,x5,x6,x7,x8]->Calls prog 151 #[.agg #[.int .i64 x0,.int .i64 x1,.int .i64 x2,.int .i64 x3,.int .i64 x4,.int .i64 x5,.int .i64 x6,.int .i64 x7,.int .i64 x8]] W fun e w'=>e=.returned (.string nm)/\Below W.heap.size W w'/\iX w' w.heap.size [x0,x1,x2,x3,x4,x5,x6,x7,x8]:=fun W hW=>(ekJ x0 x1 x2 x3 x4 x5 x6 x7 x8 W).mono (by rintro e w' ⟨h1,h2⟩;rw[hnm] at h1;exact⟨h1,h2,hW.at h2⟩);clear hnm;obtain⟨y0,y1,y2,y3,y4,y5,y6,y7,y8,hy⟩:=vS (xS (x1,nm,x2,x3,x4));rw[hy] at hr
 have kr:∀ W,Calls prog 97 #[.agg #[.int .i64 x1,.string nm,.int .i64 x2,.int .i64 x3,.int .i64 x4]] W fun x w'=>x=.returned (.agg #[.int .i64 y0,.int .i64 y1,.int .i64 y2,.int .i64 y3,.int .i64 y4,.int .i64 y5,.int .i64 y6,.int .i64 y7,.int .i64 y8])/\Below W.heap.size W w':=fun W=>by
  have h:=bkX (x1,nm,x2,x3,x4) hs W;rw[hy,bpZ] at h;exact h
 clear hy;have hq:=eq9 (x0:=x0) (x1:=x1) (x2:=x2) (x3:=x3) (x4:=x4) (x5:=x5) (x6:=x6) (x7:=x7) (x8:=x8) (y0:=y0) (y1:=y1) (y2:=y2) (y3:=y3) (y4:=y4) (y5:=y5) (y6:=y6) (y7:=y7) (y8:=y8);simp only[hr] at hq;clear hr;obtain⟨W,hW⟩:∃ W,(w.alloc (.cells #[.int .i64 x0,.int .i64 x1,.int .i64 x2,.int .i64 x3,.int .i64 x4,.int .i64 x5,.int .i64 x6,.int .i64 x7,.int .i64 x8] 187)).alloc (.cells #[.int .i64 0,.string ⟨#[]⟩,.int .i64 0,.int .i64 0,.int .i64 0] 53)=W:=⟨_,rfl⟩;have hWs:W.heap.size=w.heap.size+1+1:=by rw[<-hW];simp
 have hbW:Below w.heap.size w W:=hW▸bal (ba _ _) _;have HN:iX W w.heap.size [x0,x1,x2,x3,x4,x5,x6,x7,x8]:=hW▸(iX.new _ _ _ _ _ _ _ _ _ 187 rfl).at (ba _ _);have HR:Hid (FivB W (w.heap.size+1) (.int .i64 0) (.string ⟨#[]⟩) (.int .i64 0) (.int .i64 0) (.int .i64 0)):=hW▸FivB.new _ _ _ _ _ _ 53 _ (by simp);obtain⟨c0,c1,c2,c3,c4,c5,c6,c7,c8⟩:=HN.cells;have hrg:W.drew.rangeAt w.heap.size 0 [.int .i64 x0,.int .i64 x1,.int .i64 x2,.int .i64 x3,.int .i64 x4,.int .i64 x5,.int .i64 x6,.int .i64 x7,.int .i64 x8]:=HN.drew.range;have hu6:=underlying187;have hi6:(prog.info? 187).map (·.size)=some ([.int .i64 x0,.int .i64 x1,.int .i64 x2,.int .i64 x3,.int .i64 x4,.int .i64 x5,.int .i64 x6,.int .i64 x7,.int .i64 x8]:List Value).length:=by kernel_rfl
 have HNE:Hid (W.heap.size≠w.heap.size):=by show _≠_;omega
 have H1:=qQ HN.drew;have H2:Hid (∀ o,iX (W.alloc o).drew w.heap.size [x0,x1,x2,x3,x4,x5,x6,x7,x8]):=fun o=>(HN.at (ba _ _)).drew;have HWS:=qQ hWs;clear hWs;go_enter func95,ntmps95;go_wp2;clear hW HN
 go_region_held3 (fun w'=>w'.cell? ⟨w.heap.size,0,none⟩=some (.int .i64 x0)/\w'.cell? ⟨w.heap.size,1,none⟩=some (.int .i64 x1)/\w'.cell? ⟨w.heap.size,2,none⟩=some (.int .i64 x2)/\w'.cell? ⟨w.heap.size,3,none⟩=some (.int .i64 x3)/\w'.cell? ⟨w.heap.size,4,none⟩=some (.int .i64 x4)/\w'.cell? ⟨w.heap.size,5,none⟩=some (.int .i64 x5)/\w'.cell? ⟨w.heap.size,6,none⟩=some (.int .i64 x6)/\w'.cell? ⟨w.heap.size,7,none⟩=some (.int .i64 x7)/\w'.cell? ⟨w.heap.size,8,none⟩=some (.int .i64 x8)/\w'.rangeAt w.heap.size 0 [.int .i64 x0,.int .i64 x1,.int .i64 x2,.int .i64 x3,.int .i64 x4,.int .i64 x5,.int .i64 x6,.int .i64 x7,.int .i64 x8])
  ((refine elZ ?_;first|with_reducible exact H1.out|with_reducible exact H2.out _|with_reducible exact hN3|with_reducible exact hN3.at (ba _ _)|(with_reducible exact five_oth hN3 _ _ _ _ _ _)|(with_reducible exact fC hN3 HNE.out _ _ _ _ _)))
  (first
   | (go_at_call 151;refine(kn _ ?_).mono ?_;(with_reducible exact H2.out _);rintro x3 w3 ⟨rfl,hb3,hN3⟩;obtain⟨z0,z1,z2,z3,z4,z5,z6,z7,z8⟩:=hN3.cells;have zr:=hN3.range;obtain⟨s0,s1,s2,s3,s4,g0,g1,g2,g3,g4,hsl⟩:=elX hb3)
   | (go_at_call 151;refine(kn _ ?_).mono ?_;(with_reducible exact H1.out);rintro x3 w3 ⟨rfl,hb3,hN3⟩;obtain⟨z0,z1,z2,z3,z4,z5,z6,z7,z8⟩:=hN3.cells;have zr:=hN3.range))
 ·have hsz3:W.heap.size<=w3.heap.size:=by have:=hb3.size;simp at this;omega
  have hb3':Below w.heap.size w w3:=bt hbW.drew hb3;have HR3:=(HR.out.below (aQ _ _).drew).below hb3;have hg1:w3.heap.size≠w.heap.size+1:=by have:=HWS.out;omega
  have XN0:iX (w3.alloc (.cells #[.int .i64 x1,.string nm,.int .i64 x2,.int .i64 x3,.int .i64 x4] 53)) w.heap.size [x0,x1,x2,x3,x4,x5,x6,x7,x8]:=hN3.at (ba _ _);have XF0:FivB (w3.alloc (.cells #[.int .i64 x1,.string nm,.int .i64 x2,.int .i64 x3,.int .i64 x4] 53)) w3.heap.size (.int .i64 x1) (.string nm) (.int .i64 x2) (.int .i64 x3) (.int .i64 x4):=FivB.new w3 _ _ _ _ _ 53 _ rfl;have XR0:FivB (w3.alloc (.cells #[.int .i64 x1,.string nm,.int .i64 x2,.int .i64 x3,.int .i64 x4] 53)) (w.heap.size+1) (.int .i64 0) (.string ⟨#[]⟩) (.int .i64 0) (.int .i64 0) (.int .i64 0):=HR3.below (ba _ _);have XB0:Below w.heap.size w (w3.alloc (.cells #[.int .i64 x1,.string nm,.int .i64 x2,.int .i64 x3,.int .i64 x4] 53)):=bal hb3' _;generalize hX:w3.alloc (.cells #[.int .i64 x1,.string nm,.int .i64 x2,.int .i64 x3,.int .i64 x4] 53)=X at XN0 XF0 XR0 XB0 ⊢;generalize hgd:w3.heap.size=g at XF0 hg1 ⊢;have XN:=XN0;have XF:=XF0;have XR:=XR0;have XB:Below w.heap.size w X:=XB0;have hE1:Hid (w.heap.size+1≠w.heap.size):=by show _≠_;omega
  have hG1:Hid (w.heap.size+1≠g):=by show _≠_;omega
  clear hX hgd hN3 hb3 z0 z1 z2 z3 z4 z5 z6 z7 z8 zr H1 H2 hrg c0 c1 c2 c3 c4 c5 c6 c7 c8 XN0 XF0 XR0 XB0 HR;have hgs:g<X.heap.size:=XF.lt;have ka:∀ W,iX W w.heap.size [x0,x1,x2,x3,x4,x5,x6,x7,x8]->FivB W g (.int .i64 x1) (.string nm) (.int .i64 x2) (.int .i64 x3) (.int .i64 x4)->FivB W (w.heap.size+1) (.int .i64 0) (.string ⟨#[]⟩) (.int .i64 0) (.int .i64 0) (.int .i64 0)->Calls prog 97 #[.agg #[.int .i64 x1,.string nm,.int .i64 x2,.int .i64 x3,.int .i64 x4]] W fun x w'=>x=.returned (.agg #[.int .i64 y0,.int .i64 y1,.int .i64 y2,.int .i64 y3,.int .i64 y4,.int .i64 y5,.int .i64 y6,.int .i64 y7,.int .i64 y8])/\Below W.heap.size W w'/\iX w' w.heap.size [x0,x1,x2,x3,x4,x5,x6,x7,x8]/\FivB w' g (.int .i64 x1) (.string nm) (.int .i64 x2) (.int .i64 x3) (.int .i64 x4)/\FivB w' (w.heap.size+1) (.int .i64 0) (.string ⟨#[]⟩) (.int .i64 0) (.int .i64 0) (.int .i64 0):=fun W h1 h2 h3=>(kr W).mono (by rintro e w' ⟨k1,k2⟩;exact⟨k1,k2,h1.at k2,h2.below k2,h3.below k2⟩);have I1:=qQ XN.drew;have I2:Hid (FivB X.drew g (.int .i64 x1) (.string nm) (.int .i64 x2) (.int .i64 x3) (.int .i64 x4)):=XF.below (aQ _ _).drew;have I3:Hid (FivB X.drew (w.heap.size+1) (.int .i64 0) (.string ⟨#[]⟩) (.int .i64 0) (.int .i64 0) (.int .i64 0)):=XR.below (aQ _ _).drew;have hrx:X.drew.rangeAt w.heap.size 0 [.int .i64 x0,.int .i64 x1,.int .i64 x2,.int .i64 x3,.int .i64 x4,.int .i64 x5,.int .i64 x6,.int .i64 x7,.int .i64 x8]:=I1.out.range;obtain⟨v0,v1,v2,v3,v4,_,_,_,_,_,_⟩:=id XF;clear kr kn XN XF XR;go_wp2_with fail
  go_region_held3 (fun w'=>w'.cell? ⟨g,0,none⟩=some (.int .i64 x1)/\w'.cell? ⟨g,1,none⟩=some (.string nm)/\w'.cell? ⟨g,2,none⟩=some (.int .i64 x2)/\w'.cell? ⟨g,3,none⟩=some (.int .i64 x3)/\w'.cell? ⟨g,4,none⟩=some (.int .i64 x4)/\w'.rangeAt w.heap.size 0 [.int .i64 x0,.int .i64 x1,.int .i64 x2,.int .i64 x3,.int .i64 x4,.int .i64 x5,.int .i64 x6,.int .i64 x7,.int .i64 x8])
   ((refine bpJ ?_ ?_;(first|with_reducible exact I1.out|with_reducible exact hN4|with_reducible exact fC hN4 hE1.out _ _ _ _ _);(first|with_reducible exact I2.out|with_reducible exact hF4|with_reducible exact afX hF4 hG1.out _ _ _ _ _)))
   ((go_at_call 97;refine(ka _ I1.out I2.out I3.out).mono ?_;rintro x4 w4 ⟨rfl,hb4,hN4,hF4,hR4⟩;obtain⟨p0,p1,p2,p3,p4,_,_,_,_,_,_⟩:=id hF4;obtain⟨q0,q1,q2,q3,q4,f0,f1,f2,f3,f4,_⟩:=id hR4;have zr4:=hN4.range))
  have BX:Below w.heap.size w w4:=bt XB.drew hb4;have FR:=aS hR4 (.int .i64 x1) (.string nm) (.int .i64 x2) (.int .i64 x3) (.int .i64 x4);go_wp2;obtain⟨r0,r1,r2,r3,r4,_,_,_,_,_,_⟩:=FR;refine uQ (v:=.tuple #[.agg #[.int .i64 x1,.string nm,.int .i64 x2,.int .i64 x3,.int .i64 x4],.bool r]) ?_ rfl ⟨rfl,?_⟩
  ·simp[results,results95,go_sem,r0,r1,r2,r3,r4]
  ·exact bs (bs (bs (bs (bs BX (by simp) _) (by simp) _) (by simp) _) (by simp) _) (by simp) _
 ·have hsz3:W.heap.size<=w3.heap.size:=by have:=hb3.size;simp at this;omega
  have hb3':Below w.heap.size w w3:=bt (bal hbW _).drew hb3;have HR3:=((HR.out.below (ba _ _)).below (aQ _ _).drew).below hb3;have hg1:W.heap.size≠w.heap.size+1:=by have:=HWS.out;omega
  have XN0:iX (((((w3.setCell ⟨W.heap.size,0,none⟩ (.int .i64 x1)).setCell ⟨W.heap.size,1,none⟩ (.string nm)).setCell ⟨W.heap.size,2,none⟩ (.int .i64 x2)).setCell ⟨W.heap.size,3,none⟩ (.int .i64 x3)).setCell ⟨W.heap.size,4,none⟩ (.int .i64 x4)) w.heap.size [x0,x1,x2,x3,x4,x5,x6,x7,x8]:=fC hN3 HNE.out _ _ _ _ _;have XF0:FivB (((((w3.setCell ⟨W.heap.size,0,none⟩ (.int .i64 x1)).setCell ⟨W.heap.size,1,none⟩ (.string nm)).setCell ⟨W.heap.size,2,none⟩ (.int .i64 x2)).setCell ⟨W.heap.size,3,none⟩ (.int .i64 x3)).setCell ⟨W.heap.size,4,none⟩ (.int .i64 x4)) W.heap.size (.int .i64 x1) (.string nm) (.int .i64 x2) (.int .i64 x3) (.int .i64 x4):=aS ⟨s0,s1,s2,s3,s4,g0,g1,g2,g3,g4,hsl⟩ _ _ _ _ _;have XR0:FivB (((((w3.setCell ⟨W.heap.size,0,none⟩ (.int .i64 x1)).setCell ⟨W.heap.size,1,none⟩ (.string nm)).setCell ⟨W.heap.size,2,none⟩ (.int .i64 x2)).setCell ⟨W.heap.size,3,none⟩ (.int .i64 x3)).setCell ⟨W.heap.size,4,none⟩ (.int .i64 x4)) (w.heap.size+1) (.int .i64 0) (.string ⟨#[]⟩) (.int .i64 0) (.int .i64 0) (.int .i64 0):=afX HR3 (by have:=HWS.out;omega) _ _ _ _ _;have XB0:Below w.heap.size w (((((w3.setCell ⟨W.heap.size,0,none⟩ (.int .i64 x1)).setCell ⟨W.heap.size,1,none⟩ (.string nm)).setCell ⟨W.heap.size,2,none⟩ (.int .i64 x2)).setCell ⟨W.heap.size,3,none⟩ (.int .i64 x3)).setCell ⟨W.heap.size,4,none⟩ (.int .i64 x4)):=bs (bs (bs (bs (bs hb3' (by simp;have:=hbW.size;omega) _) (by simp;have:=hbW.size;omega) _) (by simp;have:=hbW.size;omega) _) (by simp;have:=hbW.size;omega) _) (by simp;have:=hbW.size;omega) _;generalize hX:((((w3.setCell ⟨W.heap.size,0,none⟩ (.int .i64 x1)).setCell ⟨W.heap.size,1,none⟩ (.string nm)).setCell ⟨W.heap.size,2,none⟩ (.int .i64 x2)).setCell ⟨W.heap.size,3,none⟩ (.int .i64 x3)).setCell ⟨W.heap.size,4,none⟩ (.int .i64 x4)=X at XN0 XF0 XR0 XB0 ⊢;generalize hgd:W.heap.size=g at XF0 hg1 ⊢;have XN:=XN0;have XF:=XF0;have XR:=XR0;have XB:Below w.heap.size w X:=XB0;have hE1:Hid (w.heap.size+1≠w.heap.size):=by show _≠_;omega
  have hG1:Hid (w.heap.size+1≠g):=by show _≠_;omega
  clear hX hgd hN3 hb3 z0 z1 z2 z3 z4 z5 z6 z7 z8 zr H1 H2 hrg c0 c1 c2 c3 c4 c5 c6 c7 c8 XN0 XF0 XR0 XB0 HR;have hgs:g<X.heap.size:=XF.lt;have ka:∀ W,iX W w.heap.size [x0,x1,x2,x3,x4,x5,x6,x7,x8]->FivB W g (.int .i64 x1) (.string nm) (.int .i64 x2) (.int .i64 x3) (.int .i64 x4)->FivB W (w.heap.size+1) (.int .i64 0) (.string ⟨#[]⟩) (.int .i64 0) (.int .i64 0) (.int .i64 0)->Calls prog 97 #[.agg #[.int .i64 x1,.string nm,.int .i64 x2,.int .i64 x3,.int .i64 x4]] W fun x w'=>x=.returned (.agg #[.int .i64 y0,.int .i64 y1,.int .i64 y2,.int .i64 y3,.int .i64 y4,.int .i64 y5,.int .i64 y6,.int .i64 y7,.int .i64 y8])/\Below W.heap.size W w'/\iX w' w.heap.size [x0,x1,x2,x3,x4,x5,x6,x7,x8]/\FivB w' g (.int .i64 x1) (.string nm) (.int .i64 x2) (.int .i64 x3) (.int .i64 x4)/\FivB w' (w.heap.size+1) (.int .i64 0) (.string ⟨#[]⟩) (.int .i64 0) (.int .i64 0) (.int .i64 0):=fun W h1 h2 h3=>(kr W).mono (by rintro e w' ⟨k1,k2⟩;exact⟨k1,k2,h1.at k2,h2.below k2,h3.below k2⟩);have I1:=qQ XN.drew;have I2:Hid (FivB X.drew g (.int .i64 x1) (.string nm) (.int .i64 x2) (.int .i64 x3) (.int .i64 x4)):=XF.below (aQ _ _).drew;have I3:Hid (FivB X.drew (w.heap.size+1) (.int .i64 0) (.string ⟨#[]⟩) (.int .i64 0) (.int .i64 0) (.int .i64 0)):=XR.below (aQ _ _).drew;have hrx:X.drew.rangeAt w.heap.size 0 [.int .i64 x0,.int .i64 x1,.int .i64 x2,.int .i64 x3,.int .i64 x4,.int .i64 x5,.int .i64 x6,.int .i64 x7,.int .i64 x8]:=I1.out.range;obtain⟨v0,v1,v2,v3,v4,_,_,_,_,_,_⟩:=id XF;clear kr kn XN XF XR;go_wp2_with fail
  go_region_held3 (fun w'=>w'.cell? ⟨g,0,none⟩=some (.int .i64 x1)/\w'.cell? ⟨g,1,none⟩=some (.string nm)/\w'.cell? ⟨g,2,none⟩=some (.int .i64 x2)/\w'.cell? ⟨g,3,none⟩=some (.int .i64 x3)/\w'.cell? ⟨g,4,none⟩=some (.int .i64 x4)/\w'.rangeAt w.heap.size 0 [.int .i64 x0,.int .i64 x1,.int .i64 x2,.int .i64 x3,.int .i64 x4,.int .i64 x5,.int .i64 x6,.int .i64 x7,.int .i64 x8])
   ((refine bpJ ?_ ?_;(first|with_reducible exact I1.out|with_reducible exact hN4|with_reducible exact fC hN4 hE1.out _ _ _ _ _);(first|with_reducible exact I2.out|with_reducible exact hF4|with_reducible exact afX hF4 hG1.out _ _ _ _ _)))
   ((go_at_call 97;refine(ka _ I1.out I2.out I3.out).mono ?_;rintro x4 w4 ⟨rfl,hb4,hN4,hF4,hR4⟩;obtain⟨p0,p1,p2,p3,p4,_,_,_,_,_,_⟩:=id hF4;obtain⟨q0,q1,q2,q3,q4,f0,f1,f2,f3,f4,_⟩:=id hR4;have zr4:=hN4.range))
  have BX:Below w.heap.size w w4:=bt XB.drew hb4;have FR:=aS hR4 (.int .i64 x1) (.string nm) (.int .i64 x2) (.int .i64 x3) (.int .i64 x4);go_wp2;obtain⟨r0,r1,r2,r3,r4,_,_,_,_,_,_⟩:=FR;refine uQ (v:=.tuple #[.agg #[.int .i64 x1,.string nm,.int .i64 x2,.int .i64 x3,.int .i64 x4],.bool r]) ?_ rfl ⟨rfl,?_⟩
  ·simp[results,results95,go_sem,r0,r1,r2,r3,r4]
  ·exact bs (bs (bs (bs (bs BX (by simp) _) (by simp) _) (by simp) _) (by simp) _) (by simp) _
structure HouC (w:World) (bh bd:Nat) (cv rv:Value) (bk:Nat) (n:Int) (brk:Bool):Prop where
 c0:Cl w bh 0 cv
 c1:Cl w bh 1 rv
 c2:Cl w bh 2 (.pointer (some ⟨bk,0,none⟩))
 c3:Cl w bh 3 (.iface 85 (.pointer (some ⟨bd,0,none⟩)))
 c4:Cl w bh 4 (.int .i64 n)
 c5:Cl w bh 5 (.bool brk)
theorem HouC.kp {bd:Nat}{rv:Value}(h:HouC w bh bd cv rv bk n brk)(hk:Keeps w w' N)(hn:¬ N bh):HouC w' bh bd cv rv bk n brk :=
 ⟨pU h.c0 hk hn,pU h.c1 hk hn,pU h.c2 hk hn,pU h.c3 hk hn,pU h.c4 hk hn,pU h.c5 hk hn⟩
theorem HouC.at {bd:Nat}{rv:Value}(h:HouC w bh bd cv rv bk n brk)(hb:Below w.heap.size w w'):HouC w' bh bd cv rv bk n brk :=
 h.kp (N:=fun _=>False) (xX hb) (fun h=>h)
theorem HouC.s4 {bd:Nat}{rv:Value}(h:HouC w bh bd cv rv bk n brk)(m:Int):HouC (w.setCell ⟨bh,4,none⟩ (.int .i64 m)) bh bd cv rv bk m brk :=
 ⟨h.c0.oth (.inr (by decide)) _,h.c1.oth (.inr (by decide)) _,h.c2.oth (.inr (by decide)) _,h.c3.oth (.inr (by decide)) _,h.c4.set _,h.c5.oth (.inr (by decide)) _⟩
theorem bqQ (bh bd:Nat)(cv rv:Value)(bk n m:Nat)(brk:Bool)(w:World)(h:HouC w bh bd cv rv bk n brk)(hn:n<=4096)(hm:9*n=m) :
  Calls prog 150 #[.pointer (some ⟨bh,0,none⟩)] w fun e w'=>e=.returned (.int .i64 (m:Int))/\w' = w:=by
 have m4:=h.c4.c;have hw:IntKind.i64.wrap ((n:Int)*9)=(m:Int):=by rw[sU];omega
 have H:Hid ((n:Int)*9=(m:Int)):=by show _=_;omega
 clear h hm;go_enter func150,ntmps150;go_wp2;go_ret;exact⟨congrArg (fun z=>Ending.returned (Value.int .i64 z)) (by first|exact H.out|rfl),rfl⟩
theorem bqX (bh bd bw:Nat)(cv rv:Value)(bk n:Nat)(brk:Bool)(a:Option Addr)(c:Nat)(disk:List Int)(left:Int)(w:World)(h:HouC w bh bd cv rv bk n brk)(hd:DskM w bd bw a c disk left)(hn:n<=4096)(r:Bool)(hr:decide (9*n+9<=disk.length)=r) :
  Calls prog 93 #[.pointer (some ⟨bh,0,none⟩)] w fun e w'=>e=.returned (.bool r)/\Below w.heap.size w w':=by
 have ks:=fun W (hW:DskM W bd bw a c disk left)=>d7J bd bw a c disk left W hW;have hm : ∀ w : World, (method 475 85 (.pointer (some ⟨bd, 0, none⟩)) "Size").run prog w = .ok (300, .pointer (some ⟨bd, 0, none⟩)) w := fun _ => by kernel_rfl
 have m4:=h.c4.c;have m3:=h.c3.c;have HD:Hid (∀ q,DskM (w.drewN q) bd bw a c disk left):=fun q=>hd.at (below_drewN (aQ _ _) q);have hw1:IntKind.i64.wrap ((n:Int)+1)=(n:Int)+1:=by rw[sU];omega
 have hw2:IntKind.i64.wrap (((n:Int)+1)*9)=((n:Int)+1)*9:=by rw[sU];omega
 have hq:decide (((n:Int)+1)*9<=(disk.length:Int))=r:=by rw[<-hr];exact decide_eq_decide.2 (by omega)
 clear hr h hd;go_enter func93,ntmps93;go_wp2_with fail;go_quiet ((go_at_call 300;refine Calls.quiet_of_same (ks _ ?_);first|exact HD.out _|exact HD.out 0));go_wp2;go_ret;exact⟨rfl,below_drewN (aQ _ _) _⟩
