import Derived.Test.YtpmioeamdhdokaaGreatQq09
import Derived.Test.YtpmioeamdhdokaaGreatQq07
import Derived.Shelf.SlIterI.Nil
import Derived.Shelf.SlIter.Nil
import Derived.Shelf.SortM.Plain
import Derived.Shelf.SortM.SortNone
import Derived.Shelf.SlMaps.Clone
import Derived.Shelf.Pu.Clone
import Derived.Shelf.SlGeneric
import Derived.Ground.GgzProg
import Derived.Ground.SlgmProg
import Derived.Ground.SlmcProg
import Derived.Ground.MpProg
import Derived.Test.YtpmioeamdhdokaaGreatProg
import Derived.Test.YtpmioeamdhdokaaGreatQq01
namespace Go.Proofs.YtpmioeamdhdokaaGreat
open Go.RowKit Go.Proofs.YtpmioeamdhdokaaGreat.Ds
theorem Ints.away {w:World} {B nb m:Nat} {s:Value} {xs:List Int} (h:Ints w B nb s xs) (hx:xs≠[]→∀ b o sp n c,s=.slice (some ⟨b,o,sp⟩) n c→b≠m):Ints w B m s xs:=by
 obtain ⟨a,c,hv,hc,hl,hy⟩:=h
 refine ⟨a,c,hv,hc,hl,fun hne=>?_⟩
 obtain ⟨b,o,ha,hb,_,hcell⟩:=hy hne
 exact ⟨b,o,ha,hb,hx hne b o none xs.length c (by rw [hv,ha]),hcell⟩
def PartsN (w:World) (B nb:Nat) (v:Value) (ts:List Tr):Prop :=
 ∃ a c,v=.slice a ts.length c∧ts.length≤c∧ts.length≤1073741824∧(∀ t∈ts,Ints w B nb t.1 t.2.1) ∧
  (ts≠[]→∃ b o,a=some ⟨b,o,none⟩∧b < B∧b≠nb∧Cells w b o ts)
theorem PartsN.parts {w:World} {nb:Nat} {v:Value} {ts:List Tr} (h:PartsN w w.heap.size nb v ts):Parts w w.heap.size v ts:=by
 obtain ⟨a,c,hv,hc,hl,hi,hx⟩:=h
 refine ⟨a,c,hv,hc,hl,fun t ht=>(hi t ht).mono (Nat.le_refl _) (.inr (Nat.le_refl _)),fun hne=>?_⟩
 obtain ⟨b,o,ha,hb,_,hcell⟩:=hx hne
 exact ⟨b,o,ha,hb,hcell⟩
theorem PartsN.at2 {w w':World} {nb:Nat} {v:Value} {ts:List Tr} (h:PartsN w w.heap.size nb v ts) (hb:Below w.heap.size w w'):PartsN w' w'.heap.size nb v ts:=by
 obtain ⟨a,c,hv,hc,hl,hi,hx⟩:=h
 refine ⟨a,c,hv,hc,hl,fun t ht=>(hi t ht).at2 hb,fun hne=>?_⟩
 obtain ⟨b,o,ha,hB,hn,hcell⟩:=hx hne
 exact ⟨b,o,ha,Nat.lt_of_lt_of_le hB hb.size,hn,hcell.keep hb hB⟩
theorem own_away {w:World} {lo m:Nat} {v:Value} {ts:List Tr} (h:OwnN w lo v ts) (hf:Frs lo ts) (hm:m < lo):PartsN w w.heap.size m v ts:=by
 rcases h with ⟨rfl,rfl⟩ | ⟨b,o,c,rfl,hc,hl,hlo,hr,hi⟩
 ·exact ⟨none,0,rfl,Nat.le_refl _,by simp,by simp,fun h=>absurd rfl h⟩
 ·refine ⟨_,c,rfl,hc,hl,fun t ht=>(hi t ht).away fun hne b o sp n c e=>?_,fun _=>⟨b,o,rfl,hr.lt,by omega,hr.cells⟩⟩
  have:=hf t ht hne b o sp n c e
  omega
abbrev Dl:=Value × List Tr
def Dss (w:World) (B:Nat) (v:Value) (ns:List Dl):Prop :=
 ∃ a c,v=.slice a ns.length c∧ns.length≤c∧ns.length≤1073741824∧(∀ n∈ns,Parts w B n.1 n.2) ∧
  (ns≠[]→∃ b o,a=some ⟨b,o,none⟩∧b < B∧∀ i n,ns[i]? = some n→w.cell? ⟨b,o + i,none⟩=some n.1)
theorem Dss.get {w wr:World} {B:Nat} {a:Option Addr} {n c:Nat} {ns:List Dl} (hp:Dss w B (.slice a n c) ns) (hB:B≤w.heap.size) (hbl:Below w.heap.size w wr) {i:Nat} (h:i < ns.length) :
  ∃ b o na nc us,a=some ⟨b,o,none⟩∧b < w.heap.size∧ns[i]? = some (.slice na us.length nc,us)∧wr.cell? ⟨b,o + i,none⟩=some (.slice na us.length nc)∧Parts wr B (.slice na us.length nc) us:=by
 obtain ⟨a',c',hv,hc,hl,hi,hx⟩:=hp
 simp only [Value.slice.injEq] at hv
 obtain ⟨rfl,rfl,rfl⟩:=hv
 obtain ⟨b,o,ha,hb,hcell⟩:=hx (ne_of_lt h)
 obtain ⟨⟨s,us⟩,hs⟩:=get_lt h
 have hI:=hi _ (List.mem_of_getElem? hs)
 have hI2:=hI.at hB hbl
 obtain ⟨na,nc,he,_⟩:=hI
 simp only at he
 subst he
 have hlt:b < w.heap.size:=by omega
 exact ⟨b,o,na,nc,us,ha,hlt,hs,(hbl.cell (p:=⟨b,o + i,none⟩) hlt).trans (hcell i _ hs),hI2⟩
theorem Ints.grow2 {W w':World} {m m0:Nat} {s:Value} {xs:List Int} {row:Option Nat} (h:Ints W W.heap.size m s xs) (h0:Ints W W.heap.size m0 s xs) (hg:W.grownBy w' row) (hrow:∀ g,row=some g→m0=g):Ints w' w'.heap.size m s xs:=by
 obtain ⟨a,c,hv,hc,hl,hx⟩:=h
 obtain ⟨a0,c0,hv0,_,_,hx0⟩:=h0
 refine ⟨a,c,hv,hc,hl,fun hne=>?_⟩
 obtain ⟨b,o,ha,hb,hn,hcell⟩:=hx hne
 obtain ⟨b0,o0,ha0,_,hn0,_⟩:=hx0 hne
 rw [hv,ha,ha0] at hv0
 simp only [Value.slice.injEq,Option.some.injEq,Addr.mk.injEq] at hv0
 have hbb:=hv0.1.1
 have:=hg.size
 exact ⟨b,o,ha,by omega,hn,fun i x hi=>hg.cell (hcell i x hi) fun e=>hn0 (by rw [← hbb]; exact (hrow b e.symm).symm)⟩
theorem PartsN.grow2 {W w':World} {m m0:Nat} {v:Value} {ts:List Tr} {row:Option Nat} (h:PartsN W W.heap.size m v ts) (h0:PartsN W W.heap.size m0 v ts) (hg:W.grownBy w' row) (hrow:∀ g,row=some g→m0=g):PartsN w' w'.heap.size m v ts:=by
 obtain ⟨a,c,hv,hc,hl,hi,hx⟩:=h
 obtain ⟨a0,c0,hv0,_,_,hi0,hx0⟩:=h0
 refine ⟨a,c,hv,hc,hl,fun t ht=>(hi t ht).grow2 (hi0 t ht) hg hrow,fun hne=>?_⟩
 obtain ⟨b,o,ha,hb,hn,hcell⟩:=hx hne
 obtain ⟨b0,o0,ha0,_,hn0,_⟩:=hx0 hne
 rw [hv,ha,ha0] at hv0
 simp only [Value.slice.injEq,Option.some.injEq,Addr.mk.injEq] at hv0
 have hbb:=hv0.1.1
 have hne':some b≠row:=fun e=>hn0 (by rw [← hbb]; exact (hrow b e.symm).symm)
 have:=hg.size
 exact ⟨b,o,ha,by omega,hn,fun i t ht=>⟨hg.cell (hcell i t ht).1 hne',hg.cell (hcell i t ht).2 hne'⟩⟩
def DssA (w:World) (h:Nat) (v:Value) (zs:List Dz):Prop :=
 ∃ a c,v=.slice a zs.length c∧zs.length≤c∧zs.length≤1073741824∧(∀ z∈zs,∀ m,m < h→PartsN w w.heap.size m z.1 z.2) ∧
  (zs≠[]→∃ b o,a=some ⟨b,o,none⟩∧h≤b∧b < w.heap.size∧∀ i z,zs[i]? = some z→w.cell? ⟨b,o + i,none⟩=some z.1)
theorem DssA.nil (w:World) (h:Nat):DssA w h (.slice none 0 0) []:=⟨none,0,rfl,Nat.le_refl _,by simp,by simp,fun h=>absurd rfl h⟩
theorem DssA.keep {w w':World} {h:Nat} {v:Value} {zs:List Dz} (d:DssA w h v zs) (hb:Below w.heap.size w w'):DssA w' h v zs:=by
 obtain ⟨a,c,hv,hc,hl,hi,hx⟩:=d
 refine ⟨a,c,hv,hc,hl,fun z hz m hm=>(hi z hz m hm).at2 hb,fun hne=>?_⟩
 obtain ⟨b,o,ha,h1,h2,hcell⟩:=hx hne
 exact ⟨b,o,ha,h1,Nat.lt_of_lt_of_le h2 hb.size,fun i z hz=>(hb.cell (p:=⟨b,o + i,none⟩) h2).trans (hcell i z hz)⟩
theorem DssA.mono {w:World} {h h':Nat} {v:Value} {zs:List Dz} (d:DssA w h v zs) (hl:h'≤h):DssA w h' v zs:=by
 obtain ⟨a,c,hv,hc,hl',hi,hx⟩:=d
 exact ⟨a,c,hv,hc,hl',fun z hz m hm=>hi z hz m (by omega),fun hne=>let ⟨b,o,ha,h1,h2⟩:=hx hne; ⟨b,o,ha,by omega,h2⟩⟩
theorem DssA.dss {w:World} {h:Nat} {v:Value} {zs:List Dz} (d:DssA w h v zs) (h0:0 < h):Dss w w.heap.size v zs:=by
 obtain ⟨a,c,hv,hc,hl,hi,hx⟩:=d
 exact ⟨a,c,hv,hc,hl,fun z hz=>(hi z hz 0 h0).parts,fun hne=>let ⟨b,o,ha,_,h2,h3⟩:=hx hne; ⟨b,o,ha,h2,h3⟩⟩
theorem DssA.set {w:World} {h g k:Nat} {v x:Value} {zs:List Dz} (d:DssA w h v zs) (hg:g < h):DssA (w.setCell ⟨g,k,none⟩ x) h v zs:=by
 obtain ⟨a,c,hv,hc,hl,hi,hx⟩:=d
 refine ⟨a,c,hv,hc,hl,fun z hz m hm=>(hi z hz m hm).grow2 (hi z hz g hg) (gb_setc w g k x) (fun g' e=>by simpa using e),fun hne=>?_⟩
 obtain ⟨b,o,ha,h1,h2,hcell⟩:=hx hne
 exact ⟨b,o,ha,h1,by simpa using h2,fun i z hz=>(gb_setc w g k x).cell (hcell i z hz) (by simp; omega)⟩
theorem DosN.dssA {w:World} {h:Nat} {v:Value} {zs:List Dz} (d:DosN w h v zs):DssA w h v zs:=by
 rcases d with ⟨rfl,rfl⟩ | ⟨g,cap,lo,rfl,h1,h2,hr,hg,hlo⟩
 ·exact DssA.nil w h
 ·exact ⟨_,cap,rfl,h1,by omega,fun z hz m hm=>own_away (hr.el z hz).1 (hr.el z hz).2 (by omega),fun _=>⟨g,0,rfl,hg,hr.lt,fun i z hz=>by rw [Nat.zero_add]; exact hr.cell i z hz⟩⟩
def DrwP (l:List Pt) (bits:List Int) (w:World) (e:Ending) (w':World):Prop :=
 Below w.heap.size w w'∧((roN l bits=none∧e=.returned (.tuple #[noD,.bool false])) ∨
  (∃ a c o k r,roN l bits=some (o,k,r)∧e=.returned (.tuple #[.agg #[.slice a (o:List Int).length c,.int .i64 k],.bool true])∧∀ m,m < w.heap.size→Ints w' w'.heap.size m (.slice a o.length c) o))
set_option maxHeartbeats 2000000 in
set_option maxRecDepth 100000 in
theorem draw_any (B nb:Nat) (v u:Value) (ts:List Tr) (bits:List Int) (w:World) (hB:B≤w.heap.size) (hp:Parts w B v ts) (hv:Ints w B nb u bits) (hbad:badB bits=false) (hlen:bits.length≤65536) (ho:ownT (rd ts)=(rd ts,0)) :
  Calls Tryz.prog 115 #[v,u] w (DrwP (rd ts) bits w):=by
 have HV:Hid (Ints w B nb u bits):=hv
 have HBad:Hid (badB bits=false):=hbad
 have hDis:=(ownT_ok ho).2
 have hb0:Below w.heap.size w (w.alloc (.cells #[.slice none 0 0,.int .i64 0] 162)):=ba _ _
 have kn:=new_any B v ts (w.alloc (.cells #[.slice none 0 0,.int .i64 0] 162)) (by simp; omega) (hp.at hB hb0) (rd ts) 0 ho
 have HR0:Hid (Rv (w.alloc (.cells #[.slice none 0 0,.int .i64 0] 162)) w.heap.size (.slice none 0 0) 0):=Rv.new _ _ _ _ _ rfl
 have HDis:Hid (Dis (rd ts)):=hDis
 obtain ⟨pa,pc,rfl,_⟩:=hp
 obtain ⟨a,c,rfl,hc,hl,_⟩:=hv
 clear hbad hb0 ho hDis
 go_enter Tryz.func115,Tryz.ntmps115
 go_wp2_with fail
 refine kn.mono ?_
 rintro e w1 ⟨hb1,⟨h0,_⟩ | ⟨_,E,ra,rc,us,rfl,h1,h2,h3,h4⟩⟩
 ·exact absurd rfl h0
 have hz1:w.heap.size + 1≤w1.heap.size:=by simpa using hb1.size
 have hE:w.heap.size + 1≤E:=by simpa using h4
 rw [← h1] at h2
 have hDu:Dis (rd us):=by rw [h1]; exact HDis.out
 have D:=ro_drw w1.heap.size E ra rc us hDu h2.lt
 have HD:Hid (Drw w1.heap.size E 191 190 (RoSt w1.heap.size E ra rc us) (roGo (rd us)) (fun s=>s.2.1) (0,0,1) (roSure (rd us))):=D
 have hS:RoSt w1.heap.size E ra rc us w1 (0,0,1):=RoSt.start hDu h2 h3
 have HS:Hid (RoSt w1.heap.size E ra rc us w1 (0,0,1)):=hS
 have HN:Hid (nxD (roGo (rd us)) (0,0,1) (roSure (rd us))=roN (rd ts)):=by rw [Hid,roN_is,h1]
 have HR:Hid (Rv w1 w.heap.size (.slice none 0 0) 0):=HR0.out.below hb1
 have HB1:Hid (Below w.heap.size w w1):=bt (ba _ _) hb1
 have hElt:=h2.lt
 have kc:=D.sure w1 (0,0,1) hS (Nat.le_refl _)
 clear kn h1 h2 h3 h4 hDu D hS HR0 hb1
 go_wp2_with fail
 refine kc.mono ?_
 rintro e w2 ⟨hb2,hs0,hs1⟩
 have hz2:=hb2.size
 have HR2:Hid (Rv w2 w.heap.size (.slice none 0 0) 0):=HR.out.below hb2
 have HB2:Hid (Below w.heap.size w w2):=bt HB1.out hb2
 cases hsur:roSure (rd us) with
 | some o =>
  obtain ⟨sa,sc,rfl,hI⟩:=hs1 o hsur
  have HI:Hid (∀ m,m < w.heap.size + 1→Ints w2 w2.heap.size m (.slice sa o.length sc) o):=fun m hm=>hI m (by omega)
  have HNS:Hid (roN (rd ts) bits=some (o,0,bits)):=by rw [Hid,← HN.out]; simp only [nxD,hsur]
  clear hs0 hs1 hI kc hsur
  obtain ⟨r0,r1,r2,r3,r4⟩:=HR2.out
  have ne1:¬ w.heap.size=w2.heap.size:=by omega
  go_wp2
  generalize hX:((w2.setCell ⟨w.heap.size,0,none⟩ (.slice sa o.length sc)).setCell ⟨w.heap.size,1,none⟩ (.int .i64 0)).alloc (.cells #[.slice sa o.length sc,.int .i64 0] 162)=X
  have hbX:Below w.heap.size w X:=hX▸bal (bs (bs HB2.out (p:=⟨w.heap.size,0,none⟩) (Nat.le_refl _) _) (p:=⟨w.heap.size,1,none⟩) (Nat.le_refl _) _) _
  have HRX:Rv X w.heap.size (.slice sa o.length sc) 0:=hX▸((HR2.out.put _ _).alloc _)
  have HIX:Hid (∀ m,m < w.heap.size + 1→Ints X X.heap.size m (.slice sa o.length sc) o):=by
   have h1:=Ints.setm (Ints.setm HI.out w.heap.size 0 (by omega) (.slice sa o.length sc)) w.heap.size 1 (by omega) (.int .i64 0)
   intro m hm
   have h2:=h1 m hm
   rw [show w2.heap.size=((w2.setCell ⟨w.heap.size,0,none⟩ (.slice sa o.length sc)).setCell ⟨w.heap.size,1,none⟩ (.int .i64 0)).heap.size by simp] at h2
   rw [← hX]
   exact (h2.keep (ba _ _)).mono (by simp) (.inl rfl)
  clear hX
  obtain ⟨x0,x1,_,_,_⟩:=HRX
  exact bodyPost_ret (v:=.tuple #[.agg #[.slice sa o.length sc,.int .i64 0],.bool true]) (by simp [results,Tryz.results115,go_sem,x0,x1]) rfl ⟨hbX,.inr ⟨sa,sc,o,0,bits,HNS.out,rfl,fun m hm=>HIX.out m (by omega)⟩⟩
 | none =>
  have he:=hs0 hsur
  subst he
  have HGO:Hid (roGo (rd us) (0,0,1) bits=roN (rd ts) bits):=by rw [Hid,← HN.out]; simp only [nxD,hsur]
  have HSU:Hid (roSure (rd us)=none):=hsur
  have HS2:Hid (RoSt w1.heap.size E ra rc us w2 (0,0,1)):=HD.out.keep HS.out hb2 (Nat.le_refl _)
  clear hs0 hs1 kc hsur
  obtain ⟨r0,r1,r2,r3,r4⟩:=HR2.out
  go_wp2
  generalize hX:w2.alloc (.cells #[.slice none 0 0,.int .i64 0] 162)=X
  have hbX:Below w.heap.size w X:=hX▸bal HB2.out _
  have HRX:Hid (Rv X w.heap.size (.slice none 0 0) 0):=hX▸HR2.out.alloc _
  have HSX:Hid (RoSt w1.heap.size E ra rc us X (0,0,1)):=hX▸HD.out.keep HS2.out ((ba _ _).mono hz2) hz2
  have hzX:w1.heap.size≤X.heap.size:=by rw [← hX]; simp; omega
  clear hX hb2 r0 r1 r2 r3 r4
  go_loopw [28] (fun iv wr=>∃ (i:Nat) (s:Int × Int × Int),iv=.int .i64 (i:Int)∧i≤bits.length∧Hid (RoSt w1.heap.size E ra rc us wr s∧s.2.1=i∧roN (rd ts) bits=roGo (rd us) s (bits.drop i))∧Hid (Below w.heap.size w wr∧w1.heap.size≤wr.heap.size)∧Hid (Rv wr w.heap.size (.slice none 0 0) 0)) (fun iv _=>bits.length - (intOf iv).toNat)
  case atStart=>exact ⟨0,(0,0,1),rfl,Nat.zero_le _,⟨HSX.out,rfl,by rw [← HGO.out]; simp⟩,⟨hbX,hzX⟩,HRX⟩
  case round =>
   obtain ⟨i,s,rfl,hit,HI,HG,HR⟩:=hrel
   have hz:w.heap.size + 1≤wr.heap.size:=HR.out.lt
   by_cases h1:i < bits.length
   ·obtain ⟨b,hb⟩:=get_lt h1
    have HB:Hid (bits[i]? = some b):=hb
    have HVr:Hid (Ints wr B nb (.slice a bits.length c) bits):=HV.out.at hB HG.out.1
    obtain ⟨_,_,hv',_,_,hx⟩:=HVr.out
    simp only [Value.slice.injEq] at hv'
    obtain ⟨rfl,-,rfl⟩:=hv'
    obtain ⟨bb,bo,rfl,hbB,hbE,hcell⟩:=hx (ne_of_lt h1)
    have c1:=hcell i b hb
    have hbit:=bad_get HBad.out hb
    have kc:=HD.out.feed HSU.out wr s b HI.out.1 HG.out.2 hbit (by simp only [HI.out.2.1]; omega)
    clear hb hx hcell
    go_wp2_with fail
    refine kc.mono ?_
    rintro e w4 ⟨hg2,⟨rfl,s',h2,h3,h4⟩ | ⟨ya,yc,o,rfl,h2,h3,h4⟩⟩
    ·have HI2:Hid (RoSt w1.heap.size E ra rc us w4 s'∧s'.2.1=(i + 1:Nat)∧roN (rd ts) bits=roGo (rd us) s' (bits.drop (i + 1))):=⟨h2,by simp only at h3; rw [h3,HI.out.2.1]; omega,by
      rw [HI.out.2.2,List.drop_eq_getElem_cons h1,← h4]
      have:=(List.getElem?_eq_some_iff.1 HB.out).2
      rw [this]⟩
     have HR4:Hid (Rv w4 w.heap.size (.slice none 0 0) 0):=HR.out.gb hg2 (by omega)
     have HB4:Hid (Below w.heap.size w w4):=HG.out.1.trans (below_gb hg2 (by omega) (by omega))
     have hz4:wr.heap.size≤w4.heap.size:=hg2.size
     have hg1:=HG.out.2
     clear kc h2 h3 h4 hg2 HI HG HR
     obtain ⟨r0,r1,r2,r3,r4⟩:=HR4.out
     go_wp2
     go_roundw
     case rel=>exact ⟨i + 1,s',by go_num,h1,⟨HD.out.keep HI2.out.1 ((ba _ _).mono (by omega)) (by omega),HI2.out.2⟩,⟨bal HB4.out _,by simp; omega⟩,HR4.out.alloc _⟩
     case measure=>simp [intOf]; omega
    ·have hu:s.2.1=(i:Int):=HI.out.2.1
     simp only [hu] at h4 ⊢
     have HI2:Hid (roN (rd ts) bits=some (o,(i:Int) + 1,bits.drop (i + 1))):=by
      have:=(List.getElem?_eq_some_iff.1 HB.out).2
      rw [Hid,HI.out.2.2,List.drop_eq_getElem_cons h1,this,h4]
     have HR4:Hid (Rv w4 w.heap.size (.slice none 0 0) 0):=HR.out.gb hg2 (by omega)
     have HB4:Hid (Below w.heap.size w w4):=HG.out.1.trans (below_gb hg2 (by omega) (by omega))
     have hz4:wr.heap.size≤w4.heap.size:=hg2.size
     have HO:Hid (∀ m,m < wr.heap.size→Ints w4 w4.heap.size m (.slice ya o.length yc) o):=h2
     clear kc h2 h3 h4 hg2 HI HG HR hu
     obtain ⟨r0,r1,r2,r3,r4⟩:=HR4.out
     have ne1:¬ w.heap.size=w4.heap.size:=by omega
     have ne2:¬ w4.heap.size=w.heap.size:=by omega
     go_wp2
     generalize hX:((w4.setCell ⟨w.heap.size,0,none⟩ (.slice ya o.length yc)).setCell ⟨w.heap.size,1,none⟩ (.int .i64 ((i:Int) + 1))).alloc (.cells #[.slice ya o.length yc,.int .i64 ((i:Int) + 1)] 162)=X
     have hbX:Below w.heap.size w X:=hX▸bal (bs (bs HB4.out (p:=⟨w.heap.size,0,none⟩) (Nat.le_refl _) _) (p:=⟨w.heap.size,1,none⟩) (Nat.le_refl _) _) _
     have HRX:Rv X w.heap.size (.slice ya o.length yc) ((i:Int) + 1):=hX▸((HR4.out.put _ _).alloc _)
     have HIX:Hid (∀ m,m < w.heap.size + 1→Ints X X.heap.size m (.slice ya o.length yc) o):=by
      have h1:=Ints.setm (Ints.setm (fun m hm=>HO.out m (by omega)) w.heap.size 0 (show w.heap.size < w.heap.size + 1 by omega) (.slice ya o.length yc)) w.heap.size 1 (by omega) (.int .i64 ((i:Int) + 1))
      intro m hm
      have h2:=h1 m hm
      rw [show w4.heap.size=((w4.setCell ⟨w.heap.size,0,none⟩ (.slice ya o.length yc)).setCell ⟨w.heap.size,1,none⟩ (.int .i64 ((i:Int) + 1))).heap.size by simp] at h2
      rw [← hX]
      exact (h2.keep (ba _ _)).mono (by simp) (.inl rfl)
     clear hX
     obtain ⟨x0,x1,_,_,_⟩:=HRX
     exact bodyPost_ret (v:=.tuple #[.agg #[.slice ya o.length yc,.int .i64 ((i:Int) + 1)],.bool true]) (by simp [results,Tryz.results115,go_sem,x0,x1]) rfl
      ⟨hbX,.inr ⟨ya,yc,o,_,_,HI2.out,rfl,fun m hm=>HIX.out m (by omega)⟩⟩
   ·have HI2:Hid (roN (rd ts) bits=none):=by rw [Hid,HI.out.2.2,List.drop_eq_nil_of_le (by omega),HD.out.nil]
    have HR2:=HR.out.put (.slice none 0 0) 0
    obtain ⟨r0,r1,r2,r3,r4⟩:=HR.out
    obtain ⟨x0,x1,_,_,_⟩:=HR2
    go_wp2
    exact bodyPost_ret (v:=.tuple #[noD,.bool false]) (by simp [results,Tryz.results115,go_sem,x0,x1]) rfl
     ⟨bs (bs HG.out.1 (p:=⟨w.heap.size,0,none⟩) (Nat.le_refl _) _) (p:=⟨w.heap.size,1,none⟩) (Nat.le_refl _) _,.inl ⟨HI2.out,rfl⟩⟩
end Go.Proofs.YtpmioeamdhdokaaGreat
namespace Go.Proofs
open Go.Shelf
def Tryz.keysI_ren:Go.Shelf.Ren:=⟨fun | 7=>214 | 10=>248 | n=>n,fun | 23=>234 | 26=>3 | 3=>37 | 28=>294 | 0=>0 | 27=>293 | 33=>277 | 4=>4 | n=>n,fun | n=>n⟩
theorem Tryz.keysI:Go.Proofs.SlLaysZI.n7 Tryz.prog Tryz.keysI_ren:={
 mixed:=by kernel_rfl
 f7:=⟨Tryz.f214.name,by decide,Tryz.func214.trans (congrArg some (by kernel_rfl))⟩
 f10:=⟨Tryz.f248.name,by decide,Tryz.func248.trans (congrArg some (by kernel_rfl))⟩
 t0:=Tryz.underlying0
 a0:=Tryz.isAgg0
 z0:=Tryz.sizeOf0
 v0:=Tryz.zeroValue0
 t4:=Tryz.underlying4
 a4:=Tryz.isAgg4
 z4:=Tryz.sizeOf4
 v4:=Tryz.zeroValue4
 t23:=Tryz.underlying234
 a23:=Tryz.isAgg234
 z23:=Tryz.sizeOf234
 v23:=Tryz.zeroValue234
 t26:=Tryz.underlying3
 a26:=Tryz.isAgg3
 z26:=Tryz.sizeOf3
 v26:=Tryz.zeroValue3
 t27:=Tryz.underlying293
 a27:=Tryz.isAgg293
 z27:=Tryz.sizeOf293
 v27:=Tryz.zeroValue293
 t28:=Tryz.underlying294
 a28:=Tryz.isAgg294
 z28:=Tryz.sizeOf294
 v28:=Tryz.zeroValue294
 t33:=Tryz.underlying277
 a33:=Tryz.isAgg277
 z33:=Tryz.sizeOf277
 v33:=Tryz.zeroValue277 }
def Tryz.sortedI_ren:Go.Shelf.Ren:=⟨fun | 6=>213 | 8=>246 | 9=>247 | 11=>274 | 13=>245 | 12=>275 | 23=>272 | 24=>273 | 14=>296 | 15=>297 | 16=>298 | 17=>299 | 18=>300 | 19=>301 | 20=>302 | 21=>303 | 22=>304 | 25=>309 | 26=>291 | 27=>292 | 28=>310 | 29=>311 | 30=>223 | 31=>313 | n=>n,fun | 26=>3 | 28=>294 | 24=>35 | 0=>0 | 3=>3 | 37=>184 | 48=>339 | 50=>217 | 4=>4 | 40=>332 | 39=>331 | 45=>127 | 5=>5 | 9=>9 | 51=>348 | 55=>352 | 57=>361 | 58=>323 | 33=>277 | n=>n,fun | n=>n⟩
theorem Tryz.sortedI:Go.Proofs.SlLaysZI.n6 Tryz.prog Tryz.sortedI_ren:={
 mixed:=by kernel_rfl
 f6:=⟨Tryz.f213.name,by decide,Tryz.func213.trans (congrArg some (by kernel_rfl))⟩
 f8:=⟨Tryz.f246.name,by decide,Tryz.func246.trans (congrArg some (by kernel_rfl))⟩
 f11:=⟨Tryz.f274.name,by decide,Tryz.func274.trans (congrArg some (by kernel_rfl))⟩
 t0:=Tryz.underlying0
 a0:=Tryz.isAgg0
 z0:=Tryz.sizeOf0
 v0:=Tryz.zeroValue0
 t24:=Tryz.underlying35
 a24:=Tryz.isAgg35
 z24:=Tryz.sizeOf35
 v24:=Tryz.zeroValue35
 t26:=Tryz.underlying3
 a26:=Tryz.isAgg3
 z26:=Tryz.sizeOf3
 v26:=Tryz.zeroValue3
 t28:=Tryz.underlying294
 a28:=Tryz.isAgg294
 z28:=Tryz.sizeOf294
 v28:=Tryz.zeroValue294
 i26:=by kernel_rfl }
def Tryz.sortI_ren:Go.Shelf.Ren:=⟨fun | 5=>247 | 8=>245 | 7=>275 | 19=>272 | 20=>273 | 10=>296 | 11=>297 | 12=>298 | 13=>299 | 14=>300 | 15=>301 | 16=>302 | 17=>303 | 18=>304 | 30=>309 | 31=>291 | 32=>292 | 33=>310 | 34=>311 | 35=>223 | 40=>313 | n=>n,fun | 23=>35 | 25=>3 | 3=>3 | 32=>184 | 22=>35 | 0=>0 | 44=>339 | 46=>217 | 4=>4 | 36=>332 | 35=>331 | 41=>127 | 5=>5 | 9=>9 | 53=>348 | 57=>352 | 63=>361 | 64=>323 | n=>n,fun | n=>n⟩
theorem Tryz.sortI:Go.Proofs.SlLaysM.n5 Tryz.prog Tryz.sortI_ren:={
 mixed:=by kernel_rfl
 f5:=⟨Tryz.f247.name,by decide,Tryz.func247.trans (congrArg some (by kernel_rfl))⟩
 f7:=⟨Tryz.f275.name,by decide,Tryz.func275.trans (congrArg some (by kernel_rfl))⟩
 f8:=Tryz.func245.trans (congrArg some (by kernel_rfl))
 f10:=⟨Tryz.f296.name,by decide,Tryz.func296.trans (congrArg some (by kernel_rfl))⟩
 f11:=⟨Tryz.f297.name,by decide,Tryz.func297.trans (congrArg some (by kernel_rfl))⟩
 f12:=⟨Tryz.f298.name,by decide,Tryz.func298.trans (congrArg some (by kernel_rfl))⟩
 f13:=⟨Tryz.f299.name,by decide,Tryz.func299.trans (congrArg some (by kernel_rfl))⟩
 f14:=⟨Tryz.f300.name,by decide,Tryz.func300.trans (congrArg some (by kernel_rfl))⟩
 f15:=⟨Tryz.f301.name,by decide,Tryz.func301.trans (congrArg some (by kernel_rfl))⟩
 f16:=⟨Tryz.f302.name,by decide,Tryz.func302.trans (congrArg some (by kernel_rfl))⟩
 f17:=⟨Tryz.f303.name,by decide,Tryz.func303.trans (congrArg some (by kernel_rfl))⟩
 f18:=⟨Tryz.f304.name,by decide,Tryz.func304.trans (congrArg some (by kernel_rfl))⟩
 f19:=Tryz.func272.trans (congrArg some (by kernel_rfl))
 f20:=Tryz.func273.trans (congrArg some (by kernel_rfl))
 f30:=⟨Tryz.f309.name,by decide,Tryz.func309.trans (congrArg some (by kernel_rfl))⟩
 f31:=Tryz.func291.trans (congrArg some (by kernel_rfl))
 f32:=Tryz.func292.trans (congrArg some (by kernel_rfl))
 f33:=⟨Tryz.f310.name,by decide,Tryz.func310.trans (congrArg some (by kernel_rfl))⟩
 f34:=⟨Tryz.f311.name,by decide,Tryz.func311.trans (congrArg some (by kernel_rfl))⟩
 f35:=⟨Tryz.f223.name,by decide,Tryz.func223.trans (congrArg some (by kernel_rfl))⟩
 f40:=⟨Tryz.f313.name,by decide,Tryz.func313.trans (congrArg some (by kernel_rfl))⟩
 t0:=Tryz.underlying0
 a0:=Tryz.isAgg0
 z0:=Tryz.sizeOf0
 v0:=Tryz.zeroValue0
 t3:=Tryz.underlying3
 a3:=Tryz.isAgg3
 z3:=Tryz.sizeOf3
 v3:=Tryz.zeroValue3
 t4:=Tryz.underlying4
 a4:=Tryz.isAgg4
 z4:=Tryz.sizeOf4
 v4:=Tryz.zeroValue4
 t5:=Tryz.underlying5
 a5:=Tryz.isAgg5
 z5:=Tryz.sizeOf5
 v5:=Tryz.zeroValue5
 t9:=Tryz.underlying9
 a9:=Tryz.isAgg9
 z9:=Tryz.sizeOf9
 v9:=Tryz.zeroValue9
 t22:=Tryz.underlying35
 a22:=Tryz.isAgg35
 z22:=Tryz.sizeOf35
 v22:=Tryz.zeroValue35
 t23:=Tryz.underlying35
 a23:=Tryz.isAgg35
 z23:=Tryz.sizeOf35
 v23:=Tryz.zeroValue35
 t25:=Tryz.underlying3
 a25:=Tryz.isAgg3
 z25:=Tryz.sizeOf3
 v25:=Tryz.zeroValue3
 t32:=Tryz.underlying184
 a32:=Tryz.isAgg184
 z32:=Tryz.sizeOf184
 v32:=Tryz.zeroValue184
 t35:=Tryz.underlying331
 a35:=Tryz.isAgg331
 z35:=Tryz.sizeOf331
 v35:=Tryz.zeroValue331
 t36:=Tryz.underlying332
 a36:=Tryz.isAgg332
 z36:=Tryz.sizeOf332
 v36:=Tryz.zeroValue332
 t41:=Tryz.underlying127
 a41:=Tryz.isAgg127
 z41:=Tryz.sizeOf127
 v41:=Tryz.zeroValue127
 t44:=Tryz.underlying339
 a44:=Tryz.isAgg339
 z44:=Tryz.sizeOf339
 v44:=Tryz.zeroValue339
 t46:=Tryz.underlying217
 a46:=Tryz.isAgg217
 z46:=Tryz.sizeOf217
 v46:=Tryz.zeroValue217
 t53:=Tryz.underlying348
 a53:=Tryz.isAgg348
 z53:=Tryz.sizeOf348
 v53:=Tryz.zeroValue348
 t57:=Tryz.underlying352
 a57:=Tryz.isAgg352
 z57:=Tryz.sizeOf352
 v57:=Tryz.zeroValue352
 t63:=Tryz.underlying361
 a63:=Tryz.isAgg361
 z63:=Tryz.sizeOf361
 v63:=Tryz.zeroValue361
 t64:=Tryz.underlying323
 a64:=Tryz.isAgg323
 z64:=Tryz.sizeOf323
 v64:=Tryz.zeroValue323 }
def Tryz.keysS_ren:Go.Shelf.Ren:=⟨fun | 7=>140 | 10=>211 | n=>n,fun | 23=>201 | 26=>9 | 3=>236 | 28=>241 | 0=>0 | 27=>171 | 33=>163 | 4=>4 | n=>n,fun | n=>n⟩
theorem Tryz.keysS:Go.Proofs.SlLaysZ.n7 Tryz.prog Tryz.keysS_ren:={
 mixed:=by kernel_rfl
 f7:=⟨Tryz.f140.name,by decide,Tryz.func140.trans (congrArg some (by kernel_rfl))⟩
 f10:=⟨Tryz.f211.name,by decide,Tryz.func211.trans (congrArg some (by kernel_rfl))⟩
 t0:=Tryz.underlying0
 a0:=Tryz.isAgg0
 z0:=Tryz.sizeOf0
 v0:=Tryz.zeroValue0
 t4:=Tryz.underlying4
 a4:=Tryz.isAgg4
 z4:=Tryz.sizeOf4
 v4:=Tryz.zeroValue4
 t23:=Tryz.underlying201
 a23:=Tryz.isAgg201
 z23:=Tryz.sizeOf201
 v23:=Tryz.zeroValue201
 t26:=Tryz.underlying9
 a26:=Tryz.isAgg9
 z26:=Tryz.sizeOf9
 v26:=Tryz.zeroValue9
 t27:=Tryz.underlying171
 a27:=Tryz.isAgg171
 z27:=Tryz.sizeOf171
 v27:=Tryz.zeroValue171
 t28:=Tryz.underlying241
 a28:=Tryz.isAgg241
 z28:=Tryz.sizeOf241
 v28:=Tryz.zeroValue241
 t33:=Tryz.underlying163
 a33:=Tryz.isAgg163
 z33:=Tryz.sizeOf163
 v33:=Tryz.zeroValue163 }
def Tryz.sortedS_ren:Go.Shelf.Ren:=⟨fun | 6=>139 | 8=>209 | 9=>210 | 11=>243 | 13=>245 | 12=>244 | 23=>272 | 24=>273 | 14=>263 | 15=>264 | 16=>265 | 17=>266 | 18=>267 | 19=>268 | 20=>269 | 21=>270 | 22=>271 | 25=>290 | 26=>291 | 27=>292 | 28=>293 | 29=>294 | 30=>295 | 31=>308 | n=>n,fun | 26=>9 | 28=>241 | 24=>112 | 0=>0 | 3=>3 | 37=>184 | 48=>339 | 50=>217 | 4=>4 | 40=>332 | 39=>331 | 45=>127 | 5=>5 | 9=>9 | 51=>348 | 55=>352 | 57=>361 | 58=>323 | 33=>163 | n=>n,fun | n=>n⟩
theorem Tryz.sortedS:Go.Proofs.SlLaysZ.n6 Tryz.prog Tryz.sortedS_ren:={
 mixed:=by kernel_rfl
 f6:=⟨Tryz.f139.name,by decide,Tryz.func139.trans (congrArg some (by kernel_rfl))⟩
 f8:=⟨Tryz.f209.name,by decide,Tryz.func209.trans (congrArg some (by kernel_rfl))⟩
 f11:=⟨Tryz.f243.name,by decide,Tryz.func243.trans (congrArg some (by kernel_rfl))⟩
 t0:=Tryz.underlying0
 a0:=Tryz.isAgg0
 z0:=Tryz.sizeOf0
 v0:=Tryz.zeroValue0
 t24:=Tryz.underlying112
 a24:=Tryz.isAgg112
 z24:=Tryz.sizeOf112
 v24:=Tryz.zeroValue112
 t26:=Tryz.underlying9
 a26:=Tryz.isAgg9
 z26:=Tryz.sizeOf9
 v26:=Tryz.zeroValue9
 t28:=Tryz.underlying241
 a28:=Tryz.isAgg241
 z28:=Tryz.sizeOf241
 v28:=Tryz.zeroValue241
 i26:=by kernel_rfl }
def Tryz.sortS_ren:Go.Shelf.Ren:=⟨fun | 6=>210 | 8=>245 | 9=>244 | 19=>272 | 20=>273 | 21=>263 | 22=>264 | 23=>265 | 24=>266 | 25=>267 | 26=>268 | 27=>269 | 28=>270 | 29=>271 | 36=>290 | 31=>291 | 32=>292 | 37=>293 | 38=>294 | 39=>295 | 41=>308 | n=>n,fun | 27=>112 | 29=>9 | 3=>3 | 32=>184 | 26=>112 | 0=>0 | 44=>339 | 46=>217 | 4=>4 | 36=>332 | 35=>331 | 41=>127 | 5=>5 | 9=>9 | 53=>348 | 57=>352 | 63=>361 | 64=>323 | n=>n,fun | n=>n⟩
theorem Tryz.sortS:Go.Proofs.SlLaysM.n6 Tryz.prog Tryz.sortS_ren:={
 mixed:=by kernel_rfl
 f6:=⟨Tryz.f210.name,by decide,Tryz.func210.trans (congrArg some (by kernel_rfl))⟩
 f8:=Tryz.func245.trans (congrArg some (by kernel_rfl))
 f9:=⟨Tryz.f244.name,by decide,Tryz.func244.trans (congrArg some (by kernel_rfl))⟩
 f19:=Tryz.func272.trans (congrArg some (by kernel_rfl))
 f20:=Tryz.func273.trans (congrArg some (by kernel_rfl))
 f21:=⟨Tryz.f263.name,by decide,Tryz.func263.trans (congrArg some (by kernel_rfl))⟩
 f22:=⟨Tryz.f264.name,by decide,Tryz.func264.trans (congrArg some (by kernel_rfl))⟩
 f23:=⟨Tryz.f265.name,by decide,Tryz.func265.trans (congrArg some (by kernel_rfl))⟩
 f24:=⟨Tryz.f266.name,by decide,Tryz.func266.trans (congrArg some (by kernel_rfl))⟩
 f25:=⟨Tryz.f267.name,by decide,Tryz.func267.trans (congrArg some (by kernel_rfl))⟩
 f26:=⟨Tryz.f268.name,by decide,Tryz.func268.trans (congrArg some (by kernel_rfl))⟩
 f27:=⟨Tryz.f269.name,by decide,Tryz.func269.trans (congrArg some (by kernel_rfl))⟩
 f28:=⟨Tryz.f270.name,by decide,Tryz.func270.trans (congrArg some (by kernel_rfl))⟩
 f29:=⟨Tryz.f271.name,by decide,Tryz.func271.trans (congrArg some (by kernel_rfl))⟩
 f31:=Tryz.func291.trans (congrArg some (by kernel_rfl))
 f32:=Tryz.func292.trans (congrArg some (by kernel_rfl))
 f36:=⟨Tryz.f290.name,by decide,Tryz.func290.trans (congrArg some (by kernel_rfl))⟩
 f37:=⟨Tryz.f293.name,by decide,Tryz.func293.trans (congrArg some (by kernel_rfl))⟩
 f38:=⟨Tryz.f294.name,by decide,Tryz.func294.trans (congrArg some (by kernel_rfl))⟩
 f39:=⟨Tryz.f295.name,by decide,Tryz.func295.trans (congrArg some (by kernel_rfl))⟩
 f41:=⟨Tryz.f308.name,by decide,Tryz.func308.trans (congrArg some (by kernel_rfl))⟩
 t0:=Tryz.underlying0
 a0:=Tryz.isAgg0
 z0:=Tryz.sizeOf0
 v0:=Tryz.zeroValue0
 t3:=Tryz.underlying3
 a3:=Tryz.isAgg3
 z3:=Tryz.sizeOf3
 v3:=Tryz.zeroValue3
 t4:=Tryz.underlying4
 a4:=Tryz.isAgg4
 z4:=Tryz.sizeOf4
 v4:=Tryz.zeroValue4
 t5:=Tryz.underlying5
 a5:=Tryz.isAgg5
 z5:=Tryz.sizeOf5
 v5:=Tryz.zeroValue5
 t9:=Tryz.underlying9
 a9:=Tryz.isAgg9
 z9:=Tryz.sizeOf9
 v9:=Tryz.zeroValue9
 t26:=Tryz.underlying112
 a26:=Tryz.isAgg112
 z26:=Tryz.sizeOf112
 v26:=Tryz.zeroValue112
 t27:=Tryz.underlying112
 a27:=Tryz.isAgg112
 z27:=Tryz.sizeOf112
 v27:=Tryz.zeroValue112
 t29:=Tryz.underlying9
 a29:=Tryz.isAgg9
 z29:=Tryz.sizeOf9
 v29:=Tryz.zeroValue9
 t32:=Tryz.underlying184
 a32:=Tryz.isAgg184
 z32:=Tryz.sizeOf184
 v32:=Tryz.zeroValue184
 t35:=Tryz.underlying331
 a35:=Tryz.isAgg331
 z35:=Tryz.sizeOf331
 v35:=Tryz.zeroValue331
 t36:=Tryz.underlying332
 a36:=Tryz.isAgg332
 z36:=Tryz.sizeOf332
 v36:=Tryz.zeroValue332
 t41:=Tryz.underlying127
 a41:=Tryz.isAgg127
 z41:=Tryz.sizeOf127
 v41:=Tryz.zeroValue127
 t44:=Tryz.underlying339
 a44:=Tryz.isAgg339
 z44:=Tryz.sizeOf339
 v44:=Tryz.zeroValue339
 t46:=Tryz.underlying217
 a46:=Tryz.isAgg217
 z46:=Tryz.sizeOf217
 v46:=Tryz.zeroValue217
 t53:=Tryz.underlying348
 a53:=Tryz.isAgg348
 z53:=Tryz.sizeOf348
 v53:=Tryz.zeroValue348
 t57:=Tryz.underlying352
 a57:=Tryz.isAgg352
 z57:=Tryz.sizeOf352
 v57:=Tryz.zeroValue352
 t63:=Tryz.underlying361
 a63:=Tryz.isAgg361
 z63:=Tryz.sizeOf361
 v63:=Tryz.zeroValue361
 t64:=Tryz.underlying323
 a64:=Tryz.isAgg323
 z64:=Tryz.sizeOf323
 v64:=Tryz.zeroValue323 }
def Tryz.cloneM_ren:Go.Shelf.Ren:=⟨fun | 5=>242 | 7=>262 | n=>n,fun | 23=>234 | 25=>3 | 3=>37 | 4=>4 | 20=>20 | n=>n,fun | n=>n⟩
theorem Tryz.cloneM:Go.Proofs.SlLaysW.n5 Tryz.prog Tryz.cloneM_ren:={
 mixed:=by kernel_rfl
 f5:=⟨Tryz.f242.name,by decide,Tryz.func242.trans (congrArg some (by kernel_rfl))⟩
 f7:=Tryz.func262.trans (congrArg some (by kernel_rfl))
 t4:=Tryz.underlying4
 a4:=Tryz.isAgg4
 z4:=Tryz.sizeOf4
 v4:=Tryz.zeroValue4
 t20:=Tryz.underlying20
 a20:=Tryz.isAgg20
 z20:=Tryz.sizeOf20
 v20:=Tryz.zeroValue20
 t23:=Tryz.underlying234
 a23:=Tryz.isAgg234
 z23:=Tryz.sizeOf234
 v23:=Tryz.zeroValue234 }
def Tryz.cloneT_ren:Go.Shelf.Ren:=⟨fun | 25=>180 | n=>n,fun | 9=>9 | 3=>3 | 4=>4 | 37=>218 | 0=>0 | 47=>308 | 5=>5 | n=>n,fun | n=>n⟩
theorem Tryz.cloneT:Go.Proofs.LaysPu.n25 Tryz.prog Tryz.cloneT_ren:={
 mixed:=by kernel_rfl
 f25:=Tryz.func180.trans (congrArg some (by kernel_rfl))
 t0:=Tryz.underlying0
 a0:=Tryz.isAgg0
 z0:=Tryz.sizeOf0
 v0:=Tryz.zeroValue0
 i0:=by kernel_rfl
 t3:=Tryz.underlying3
 a3:=Tryz.isAgg3
 z3:=Tryz.sizeOf3
 v3:=Tryz.zeroValue3
 i3:=by kernel_rfl
 t4:=Tryz.underlying4
 a4:=Tryz.isAgg4
 z4:=Tryz.sizeOf4
 v4:=Tryz.zeroValue4
 i4:=by kernel_rfl
 t5:=Tryz.underlying5
 a5:=Tryz.isAgg5
 z5:=Tryz.sizeOf5
 v5:=Tryz.zeroValue5
 i5:=by kernel_rfl
 t9:=Tryz.underlying9
 a9:=Tryz.isAgg9
 z9:=Tryz.sizeOf9
 v9:=Tryz.zeroValue9
 i9:=by kernel_rfl
 t37:=Tryz.underlying218
 a37:=Tryz.isAgg218
 z37:=Tryz.sizeOf218
 v37:=Tryz.zeroValue218
 i37:=by kernel_rfl
 t47:=Tryz.underlying308
 a47:=Tryz.isAgg308
 z47:=Tryz.sizeOf308
 v47:=Tryz.zeroValue308
 i47:=by kernel_rfl }
end Go.Proofs
namespace Go.Proofs.YtpmioeamdhdokaaGreat.K.P
open Go.RowKit
abbrev rv (n m:Int):Value:=.agg #[.int .i64 n,.int .i64 m]
theorem bcell {W w1:World} (hb:Below W.heap.size W w1):(∀ b o,b < W.heap.size→w1.cell? ⟨b,o,none⟩=W.cell? ⟨b,o,none⟩)∧(∀ b o,b < W.heap.size→w1.frozen? ⟨b,o,none⟩=W.frozen? ⟨b,o,none⟩) :=
 ⟨fun b o h=>hb.cell (p:=⟨b,o,none⟩) h,fun b o h=>hb.frozen (p:=⟨b,o,none⟩) h⟩
theorem bt {w w1 w2:World} (h:Below w.heap.size w w1) (k:Below w1.heap.size w1 w2):Below w.heap.size w w2:=h.trans (k.mono h.size)
theorem ba (w:World) (o:Obj):Below w.heap.size w (w.alloc o):=(Below.refl _ _).alloc (Nat.le_refl _) o
theorem bs {w w1:World} (h:Below w.heap.size w w1) {p:Addr} (hp:w.heap.size≤p.block) (u:Value):Below w.heap.size w (w1.setCell p u):=h.setCell hp u
theorem bal {w w1:World} (h:Below w.heap.size w w1) (o:Obj):Below w.heap.size w (w1.alloc o):=h.alloc h.size o
set_option maxHeartbeats 400000 in
theorem right_any (u d:Int) (b:Bool) (hb:Rt.rightB u d=b) (w:World) :
  Calls Tryz.prog 174 #[rv u d] w fun e w'=>e=.returned (.bool b)∧Below w.heap.size w w':=by
 have HB:Hid (Rt.rightB u d=b):=hb
 clear hb
 by_cases c:0≤u∧u≤1073741824∧1≤d∧d≤1073741824
 ·obtain ⟨c1,c2,c3,c4⟩:=c
  obtain ⟨x,rfl⟩:=Int.eq_ofNat_of_zero_le c1
  obtain ⟨y,rfl⟩:=Int.eq_ofNat_of_zero_le (show 0≤d by omega)
  have hbb:b=(((Nat.gcd x y:Nat):Int) == 1):=by
   rw [← HB.out]; unfold Rt.rightB; rw [Bool.eq_iff_iff]; simp [Rt.mx]; omega
  subst hbb
  clear HB
  go_enter Tryz.func174,Tryz.ntmps174
  go_wp2_with (go_at_call 74; refine (divisor_any _ _ (by omega) (by omega) _).mono ?_; rintro e w' ⟨rfl,hbl⟩)
  go_ret
  exact ⟨rfl,bt (ba _ _) hbl⟩
 ·have hbb:b=false:=by
   rw [← HB.out]; unfold Rt.rightB Rt.mx; exact decide_eq_false (fun h=>c ⟨h.1,h.2.1,h.2.2.1,h.2.2.2.1⟩)
  subst hbb
  clear HB
  by_cases c1:u < 0
  ·clear c
   go_enter Tryz.func174,Tryz.ntmps174
   go_wp2
   go_ret
   exact ⟨rfl,ba _ _⟩
  by_cases c2:1073741824 < u
  ·clear c
   go_enter Tryz.func174,Tryz.ntmps174
   go_wp2
   go_ret
   exact ⟨rfl,ba _ _⟩
  by_cases c3:d < 1
  ·clear c
   go_enter Tryz.func174,Tryz.ntmps174
   go_wp2
   go_ret
   exact ⟨rfl,ba _ _⟩
  ·have c4:1073741824 < d:=by omega
   clear c
   go_enter Tryz.func174,Tryz.ntmps174
   go_wp2
   go_ret
   exact ⟨rfl,ba _ _⟩
set_option maxHeartbeats 400000 in
theorem make_any (u d n m e:Int) (hu:u≤9223372036854775807) (hd:d≤9223372036854775807) (h:Rt.mkT u d=(n,m,e)) (w:World) :
  Calls Tryz.prog 37 #[.int .i64 u,.int .i64 d] w fun x w'=>x=.returned (.tuple #[rv n m,.int .i64 e])∧Below w.heap.size w w':=by
 have H:Hid (Rt.mkT u d=(n,m,e)):=h
 clear h
 by_cases c1:u < 0
 ·have hr:(0,0,3)=(n,m,e):=by rw [← H.out]; unfold Rt.mkT; rw [if_pos (.inl c1)]
  simp only [Prod.mk.injEq] at hr
  obtain ⟨rfl,rfl,rfl⟩:=hr
  go_enter Tryz.func37,Tryz.ntmps37
  go_wp2
  exact bodyPost_ret (v:=.tuple #[rv 0 0,.int .i64 3]) (by simp [results,Tryz.results37,go_sem]) rfl ⟨rfl,ba _ _⟩
 by_cases c2:d < 1
 ·have hr:(0,0,3)=(n,m,e):=by rw [← H.out]; unfold Rt.mkT; rw [if_pos (.inr c2)]
  simp only [Prod.mk.injEq] at hr
  obtain ⟨rfl,rfl,rfl⟩:=hr
  go_enter Tryz.func37,Tryz.ntmps37
  go_wp2
  exact bodyPost_ret (v:=.tuple #[rv 0 0,.int .i64 3]) (by simp [results,Tryz.results37,go_sem]) rfl ⟨rfl,ba _ _⟩
 have hm:=Rt.mkT_of u d n m e (by omega) (by omega) H.out
 clear H
 obtain ⟨x,rfl⟩:=Int.eq_ofNat_of_zero_le (show 0≤u by omega)
 obtain ⟨y,rfl⟩:=Int.eq_ofNat_of_zero_le (show 0≤d by omega)
 rw [show Int.gcd (x:Int) (y:Int)=Nat.gcd x y from rfl] at hm
 have hg1:1≤Nat.gcd x y:=Nat.gcd_pos_of_pos_right _ (by omega)
 have hg2:Nat.gcd x y≤y:=Nat.gcd_le_right _ (by omega)
 have q1:0≤(x:Int) / (Nat.gcd x y:Nat):=Int.ediv_nonneg (by omega) (by omega)
 have q2:0≤(y:Int) / (Nat.gcd x y:Nat):=Int.ediv_nonneg (by omega) (by omega)
 have q3:(x:Int) / (Nat.gcd x y:Nat)≤9223372036854775807:=Int.le_trans (Int.ediv_le_self _ (by omega)) hu
 have q4:(y:Int) / (Nat.gcd x y:Nat)≤9223372036854775807:=Int.le_trans (Int.ediv_le_self _ (by omega)) hd
 rcases hm with ⟨hc,rfl,rfl,rfl⟩ | ⟨hc1,hc2,rfl,rfl,rfl⟩
 ·have hc':1073741824 < (x:Int) / (Nat.gcd x y:Nat)∨((x:Int) / (Nat.gcd x y:Nat)≤1073741824∧1073741824 < (y:Int) / (Nat.gcd x y:Nat)):=by omega
  clear hc
  rcases hc' with hc1 | ⟨hc1,hc2⟩
  all_goals
   go_enter Tryz.func37,Tryz.ntmps37
   go_wp2_with (go_at_call 74; refine (divisor_any _ _ (by omega) (by omega) _).mono ?_; rintro e w' ⟨rfl,hbl⟩)
   obtain ⟨hcell,hfroz⟩:=bcell hbl
   generalize Nat.gcd x y=g at *
   have hz:w.heap.size < w'.heap.size:=by have:=hbl.size; simp at this; omega
   go_region
   go_wp2
   exact bodyPost_ret (v:=.tuple #[rv 0 0,.int .i64 4]) (by simp [results,Tryz.results37,go_sem,hcell,hz]) rfl ⟨rfl,(bal (bs (bs (bt (ba _ _) hbl) (Nat.le_refl _) _) (Nat.le_refl _) _) _).drew⟩
 ·go_enter Tryz.func37,Tryz.ntmps37
  go_wp2_with (go_at_call 74; refine (divisor_any _ _ (by omega) (by omega) _).mono ?_; rintro e w' ⟨rfl,hbl⟩)
  obtain ⟨hcell,hfroz⟩:=bcell hbl
  have hz:w.heap.size < w'.heap.size:=by have:=hbl.size; simp at this; omega
  go_region
  go_wp2
  exact bodyPost_ret (v:=.tuple #[rv (x / (Nat.gcd x y:Nat)) (y / (Nat.gcd x y:Nat)),.int .i64 0]) (by simp [results,Tryz.results37,go_sem,hcell,hz]) rfl ⟨rfl,(bal (bs (bs (bt (ba _ _) hbl) (Nat.le_refl _) _) (Nat.le_refl _) _) _).drew⟩
end Go.Proofs.YtpmioeamdhdokaaGreat.K.P
