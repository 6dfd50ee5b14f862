import Derived.Test.YtdceajgpolckiaaGreatDoorQq29
import Derived.Test.YtdceajgpolckiaaGreatDoorQq18
open Go.Proofs.Tryz
set_option linter.unusedSimpArgs false
set_option maxHeartbeats 16000000
set_option maxRecDepth 100000
namespace Go.Proofs.YtdceajgpolckiaaGreatDoor
namespace K.P
open Go.RowKit K.Ds
def c3X (w:World) (N:Nat->Prop) (bk bm:Nat) (done:List En) (e:En) (er:Int):Ending->World->Prop:=fun x w' =>
 Below w.heap.size w w'/\((er≠0/\x=.returned (.tuple #[zp,.int .i64 er])) \/
  (er=0/\∃ b bp np Dp,x=.returned (.tuple #[pv b (zX (done++[e]) e.2.1).1 bp,.int .i64 0])/\fX (done++[e]) e.2.1=some b /\
   Pts w' bp np Dp (fun p=>p∈prs (done++[e]) e.2.1) (fun p=>(mQ (done++[e]) e.2.1 p).1)/\np<=done.length+1/\Maps.size Dp=(pZ (done++[e]) e.2.1).length/\N bp/\bp≠bk/\bp≠bm))
theorem BookM.lookAt {w:World}{N:Nat->Prop}{bk bm n:Nat}{v:Value}{D:DataW Value}{done:List En}(h:BookM w N bk bm n v D done){x:ByteArray}(hx:x.size<=4294967296){vv:Value}(hv:D.atKey (kN x) (.held zp)=.held vv){t:Bool}(ht:Maps.has D (kN x)=t){w':World}(hg:w.grownBy w' none) :
  (Instr.lookup 182 (.map (some bm)) (.string x) true).run prog w' = .ok (.tuple #[vv,.bool t]) w':=by
 obtain⟨v',ps,hrun,hat⟩:=(h.gb hg (by simp)).own.look_ok oB underlying182 (czJ w') (zd:=.held zp) (zp:=[]) rfl (Go.WideMaps.keyOf_string_mk underlying9 (s:=x) (by unfold maxLen;omega));rw[hv] at hat;simp[hR] at hat;rw[hrun,hat.1,ht]
theorem BookM.has_no {w:World}{N:Nat->Prop}{bk bm n:Nat}{v:Value}{D:DataW Value}{done:List En}(h:BookM w N bk bm n v D done){x:ByteArray}(hb:fX done x=none):Maps.has D (kN x)=false/\D.atKey (kN x) (.held zp)=.held zp:=by
 have hh:Maps.has D (kN x)=false:=by
  cases hc:Maps.has D (kN x) with
  | false=>rfl
  | true=>obtain⟨b,hb'⟩:=(h.is x).1 hc;rw[hb] at hb';cases hb'
 exact⟨hh,Maps.atKey_of_not_has hh _⟩
def c3Z (w:World) (u v' er:Int):Ending->World->Prop:=fun x w'=>Below w.heap.size w w'/\((er≠0/\x=.returned (.tuple #[zp,.int .i64 er]))\/(er=0/\∃ bp,x=.returned (.tuple #[pv (u,v') bZ bp,.int .i64 0])/\w.heap.size<=bp/\Pts w' bp 0 (.map []) (fun _=>False) (fun _=>bZ)))
def c3J (w:World) (N:Nat->Prop) (bk bm:Nat) (done:List En) (nm:ByteArray) (b al:Rq) (er:Int):Ending->World->Prop:=fun x w'=>Below w.heap.size w w'/\((er≠0/\x=.returned (.tuple #[zp,.int .i64 er]))\/(er=0/\∃ bp np Dp,x=.returned (.tuple #[pv b al bp,.int .i64 0])/\Pts w' bp np Dp (fun p=>p∈prs done nm) (fun p=>(mQ done nm p).1)/\np<=done.length/\Maps.size Dp=(pZ done nm).length/\N bp/\bp≠bk/\bp≠bm))
def c4Q (w:World) (done:List En) (nm:ByteArray) (b al q:Rq) (p er:Int):Ending->World->Prop:=fun x w'=>Below w.heap.size w w'/\((er≠0/\x=.returned (.tuple #[zp,.int .i64 er]))\/(er=0/\∃ bp np Dp,x=.returned (.tuple #[pv b al bp,.int .i64 0])/\Pts w' bp (np+1) Dp (fun y=>y∈prs done nm\/y=p) (fun y=>if y=p then q else (mQ done nm y).1)/\np<=done.length/\Maps.size Dp=(if decide (p∈prs done nm) then (pZ done nm).length else (pZ done nm).length+1)/\w.heap.size<=bp))
theorem c4X (N:Nat->Prop)(bk bm n:Nat)(v:Value)(D:DataW Value)(done:List En)(nm:ByteArray)(p u v':Int)(w:World)(hB:BookM w N bk bm n v D done)(hs:nm.size<=4294967296)(b:Rq)(hbud:fX done nm=some b) :
  Calls prog 106 #[.pointer (some ⟨bk,0,none⟩),ev (1,nm,p,u,v')] w fun x w'=>Below w.heap.size w w'/\x=.returned (.tuple #[zp,.int .i64 7]):=by
 have HB:Hid (BookM w N bk bm n v D done):=hB;obtain⟨w0,hw0⟩:∃ w0,(w.alloc (.cells #[.int .i64 1,.string nm,.int .i64 p,.int .i64 u,.int .i64 v'] 53)).alloc (.cells #[.int .i64 0,.int .i64 0,.int .i64 0,.int .i64 0,.map none] 207)=w0:=⟨_,rfl⟩;have hz0:w0.heap.size=w.heap.size+1+1:=by rw[<-hw0];simp
 have B0:Below w.heap.size w w0:=by rw[<-hw0];exact bal (ba _ _) _
 have V0:Hid (FivB w0 w.heap.size (.int .i64 1) (.string nm) (.int .i64 p) (.int .i64 u) (.int .i64 v')):=by rw[<-hw0];exact(FivB.new _ _ _ _ _ _ 53 _ rfl).below (ba _ _)
 have V1:Hid (FivB w0 (w.heap.size+1) (.int .i64 0) (.int .i64 0) (.int .i64 0) (.int .i64 0) (.map none)):=by rw[<-hw0];exact FivB.new _ _ _ _ _ _ 207 _ (by simp)
 have BK:Hid (BookM w0 N bk bm n v D done):=hB.keep B0;obtain⟨bp,np,Dp,hat,hPp,hnp,hszp,hlop,hbpk,hbpm⟩:=(hB.el nm b hbud).ex;have hhas:Maps.has D (kN nm)=true:=(hB.is nm).2 ⟨b,hbud⟩;have HX:Hid (np<=done.length/\Maps.size Dp=(pZ done nm).length/\N bp/\bp≠bk/\bp≠bm):=⟨hnp,hszp,hlop,hbpk,hbpm⟩;have HPp:Hid (Pts w bp np Dp (fun p=>p∈prs done nm) (fun p=>(mQ done nm p).1)):=hPp;have HBU:Hid (fX done nm=some b):=hbud;clear hnp hszp hlop hbpk hbpm hPp hbud;obtain⟨al,hal⟩:∃ al,(zX done nm).1=al:=⟨_,rfl⟩;have HAL:Hid ((zX done nm).1=al):=hal;rw[hal] at hat;clear hal;have hlk1:=BK.out.lookAt hs hat hhas (fJ (dX w0 none));have hlk2:=BK.out.lookAt hs hat hhas (fJ (oA (dX w0 none) (.cells #[.int .i64 0,.int .i64 0,.int .i64 0,.int .i64 0,.map none] 207)));obtain⟨c0,c1,c2,c3,c4,f0,f1,f2,f3,f4,hl0⟩:=V0.out;obtain⟨d0,d1,d2,d3,d4,g0,g1,g2,g3,g4,hl1⟩:=V1.out;obtain⟨t0,t1,tf0,tf1,htl⟩:=BK.out.two;have hbk:bk<w.heap.size:=HB.out.two.lt;have hbk2:bk<w.heap.size+1+1:=by omega
 clear hB hat hhas;go_enter func106,ntmps106;go_wp2_with fail
 go_region
 all_goals go_wp2_with fail
 all_goals exact yQ (v:=.tuple #[zp,.int .i64 7]) (by simp[results,results106,go_sem,d0,d1,d2,d3,d4,hl1]) rfl ⟨(bal (sV B0 (by omega) _ _ _ _ _) _).drew,rfl⟩
theorem c4Z (N:Nat->Prop)(bk bm n:Nat)(v:Value)(D:DataW Value)(done:List En)(nm:ByteArray)(p u v':Int)(w:World)(hB:BookM w N bk bm n v D done)(hs:nm.size<=4294967296)(hbud:fX done nm=none) :
  Calls prog 106 #[.pointer (some ⟨bk,0,none⟩),ev (2,nm,p,u,v')] w fun x w'=>Below w.heap.size w w'/\x=.returned (.tuple #[zp,.int .i64 7]):=by
 have HB:Hid (BookM w N bk bm n v D done):=hB;obtain⟨w0,hw0⟩:∃ w0,(w.alloc (.cells #[.int .i64 2,.string nm,.int .i64 p,.int .i64 u,.int .i64 v'] 53)).alloc (.cells #[.int .i64 0,.int .i64 0,.int .i64 0,.int .i64 0,.map none] 207)=w0:=⟨_,rfl⟩;have hz0:w0.heap.size=w.heap.size+1+1:=by rw[<-hw0];simp
 have B0:Below w.heap.size w w0:=by rw[<-hw0];exact bal (ba _ _) _
 have V0:Hid (FivB w0 w.heap.size (.int .i64 2) (.string nm) (.int .i64 p) (.int .i64 u) (.int .i64 v')):=by rw[<-hw0];exact(FivB.new _ _ _ _ _ _ 53 _ rfl).below (ba _ _)
 have V1:Hid (FivB w0 (w.heap.size+1) (.int .i64 0) (.int .i64 0) (.int .i64 0) (.int .i64 0) (.map none)):=by rw[<-hw0];exact FivB.new _ _ _ _ _ _ 207 _ (by simp)
 have BK:Hid (BookM w0 N bk bm n v D done):=hB.keep B0;obtain⟨hhas,hat⟩:=hB.has_no hbud;have HBU:Hid (fX done nm=none):=hbud;clear hbud;have hlk1:=BK.out.lookAt hs hat hhas (fJ (dX w0 none));have hlk2:=BK.out.lookAt hs hat hhas (fJ (oA (dX w0 none) (.cells #[.int .i64 0,.int .i64 0,.int .i64 0,.int .i64 0,.map none] 207)));obtain⟨c0,c1,c2,c3,c4,f0,f1,f2,f3,f4,hl0⟩:=V0.out;obtain⟨d0,d1,d2,d3,d4,g0,g1,g2,g3,g4,hl1⟩:=V1.out;obtain⟨t0,t1,tf0,tf1,htl⟩:=BK.out.two;have hbk:bk<w.heap.size:=HB.out.two.lt;have hbk2:bk<w.heap.size+1+1:=by omega
 clear hB hat hhas;go_enter func106,ntmps106;go_wp2_with fail
 go_region
 all_goals go_wp2_with fail
 all_goals exact yQ (v:=.tuple #[zp,.int .i64 7]) (by simp[results,results106,go_sem,d0,d1,d2,d3,d4,hl1]) rfl ⟨(bal (sV B0 (by omega) _ _ _ _ _) _).drew,rfl⟩
theorem c4J (N:Nat->Prop)(bk bm n:Nat)(v:Value)(D:DataW Value)(done:List En)(nm:ByteArray)(p u v':Int)(w:World)(hB:BookM w N bk bm n v D done)(hs:nm.size<=4294967296)(hbud:fX done nm=none) :
  Calls prog 106 #[.pointer (some ⟨bk,0,none⟩),ev (3,nm,p,u,v')] w fun x w'=>Below w.heap.size w w'/\x=.returned (.tuple #[zp,.int .i64 7]):=by
 have HB:Hid (BookM w N bk bm n v D done):=hB;obtain⟨w0,hw0⟩:∃ w0,(w.alloc (.cells #[.int .i64 3,.string nm,.int .i64 p,.int .i64 u,.int .i64 v'] 53)).alloc (.cells #[.int .i64 0,.int .i64 0,.int .i64 0,.int .i64 0,.map none] 207)=w0:=⟨_,rfl⟩;have hz0:w0.heap.size=w.heap.size+1+1:=by rw[<-hw0];simp
 have B0:Below w.heap.size w w0:=by rw[<-hw0];exact bal (ba _ _) _
 have V0:Hid (FivB w0 w.heap.size (.int .i64 3) (.string nm) (.int .i64 p) (.int .i64 u) (.int .i64 v')):=by rw[<-hw0];exact(FivB.new _ _ _ _ _ _ 53 _ rfl).below (ba _ _)
 have V1:Hid (FivB w0 (w.heap.size+1) (.int .i64 0) (.int .i64 0) (.int .i64 0) (.int .i64 0) (.map none)):=by rw[<-hw0];exact FivB.new _ _ _ _ _ _ 207 _ (by simp)
 have BK:Hid (BookM w0 N bk bm n v D done):=hB.keep B0;obtain⟨hhas,hat⟩:=hB.has_no hbud;have HBU:Hid (fX done nm=none):=hbud;clear hbud;have hlk1:=BK.out.lookAt hs hat hhas (fJ (dX w0 none));have hlk2:=BK.out.lookAt hs hat hhas (fJ (oA (dX w0 none) (.cells #[.int .i64 0,.int .i64 0,.int .i64 0,.int .i64 0,.map none] 207)));obtain⟨c0,c1,c2,c3,c4,f0,f1,f2,f3,f4,hl0⟩:=V0.out;obtain⟨d0,d1,d2,d3,d4,g0,g1,g2,g3,g4,hl1⟩:=V1.out;obtain⟨t0,t1,tf0,tf1,htl⟩:=BK.out.two;have hbk:bk<w.heap.size:=HB.out.two.lt;have hbk2:bk<w.heap.size+1+1:=by omega
 clear hB hat hhas;go_enter func106,ntmps106;go_wp2_with fail
 go_region
 all_goals go_wp2_with fail
 all_goals exact yQ (v:=.tuple #[zp,.int .i64 7]) (by simp[results,results106,go_sem,d0,d1,d2,d3,d4,hl1]) rfl ⟨(bal (sV B0 (by omega) _ _ _ _ _) _).drew,rfl⟩
theorem c5Q (N:Nat->Prop)(bk bm n:Nat)(v:Value)(D:DataW Value)(done:List En)(nm:ByteArray)(p u v':Int)(w:World)(hB:BookM w N bk bm n v D done)(hs:nm.size<=4294967296)(hbud:fX done nm=none)(k:Nat)(hk:(aA done).length=k)(er:Int)(her:(if 64<=k then 5 else 0)=er) :
  Calls prog 106 #[.pointer (some ⟨bk,0,none⟩),ev (1,nm,p,u,v')] w (c3Z w u v' er):=by
 have HB:Hid (BookM w N bk bm n v D done):=hB;obtain⟨w0,hw0⟩:∃ w0,(w.alloc (.cells #[.int .i64 1,.string nm,.int .i64 p,.int .i64 u,.int .i64 v'] 53)).alloc (.cells #[.int .i64 0,.int .i64 0,.int .i64 0,.int .i64 0,.map none] 207)=w0:=⟨_,rfl⟩;have hz0:w0.heap.size=w.heap.size+1+1:=by rw[<-hw0];simp
 have B0:Below w.heap.size w w0:=by rw[<-hw0];exact bal (ba _ _) _
 have V0:Hid (FivB w0 w.heap.size (.int .i64 1) (.string nm) (.int .i64 p) (.int .i64 u) (.int .i64 v')):=by rw[<-hw0];exact(FivB.new _ _ _ _ _ _ 53 _ rfl).below (ba _ _)
 have V1:Hid (FivB w0 (w.heap.size+1) (.int .i64 0) (.int .i64 0) (.int .i64 0) (.int .i64 0) (.map none)):=by rw[<-hw0];exact FivB.new _ _ _ _ _ _ 207 _ (by simp)
 have BK:Hid (BookM w0 N bk bm n v D done):=hB.keep B0;obtain⟨hhas,hat⟩:=hB.has_no hbud;have HBU:Hid (fX done nm=none):=hbud;clear hbud;have hlk1:=BK.out.lookAt hs hat hhas (fJ (dX w0 none));have hlk2:=BK.out.lookAt hs hat hhas (fJ (oA (dX w0 none) (.cells #[.int .i64 0,.int .i64 0,.int .i64 0,.int .i64 0,.map none] 207)));obtain⟨c0,c1,c2,c3,c4,f0,f1,f2,f3,f4,hl0⟩:=V0.out;obtain⟨d0,d1,d2,d3,d4,g0,g1,g2,g3,g4,hl1⟩:=V1.out;obtain⟨t0,t1,tf0,tf1,htl⟩:=BK.out.two;have hbk:bk<w.heap.size:=HB.out.two.lt;have hbk2:bk<w.heap.size+1+1:=by omega
 clear hB hat hhas;have hlen:=(BK.out.gb (fJ (oA (dX w0 none) (.cells #[.int .i64 0,.int .i64 0,.int .i64 0,.int .i64 0,.map none] 207))) (by simp)).own.len underlying182 3;rw[BK.out.sz,hk] at hlen;have hkb:k<=64:=by rw[<-hk];exact BK.out.inv.ops
 have ko:=fun W=>c1Z (u,v') (fun _=>bZ) W;have W1:Hid (FivB (w0.alloc (.cells #[.int .i64 0,.int .i64 0,.int .i64 0,.int .i64 0,.map none] 207)).drew (w.heap.size+1) (.int .i64 0) (.int .i64 0) (.int .i64 0) (.int .i64 0) (.map none)):=(V1.out.below (ba _ _)).gb (fJ (dX _ none)) (by simp);go_enter func106,ntmps106;go_wp2_with fail
 go_region
 all_goals
  by_cases c:64<=k
  ·rw[xQ c] at her
   subst her;have hq:decide ((64:Int)<=(k:Int))=true:=vG (by omega);go_wp2_with fail;exact yQ (v:=.tuple #[zp,.int .i64 5]) (by simp[results,results106,go_sem,d0,d1,d2,d3,d4,hl1]) rfl ⟨(bal (sV B0 (by omega) _ _ _ _ _) _).drew,.inl ⟨by decide,rfl⟩⟩
  ·rw[qQ c] at her
   subst her;have hq:decide ((64:Int)<=(k:Int))=false:=nV (by omega);go_wp2_with fail;refine(ko _).mono ?_;rintro e1 w1 ⟨bp,rfl,hb1,hbp,hP1⟩;obtain⟨x0,x1,x2,x3,x4,y0,y1,y2,y3,y4,hx⟩:=W1.out.below hb1;have hbp':w.heap.size+1+1<bp:=by simp[hz0] at hbp;omega
   go_wp2_with fail;exact yQ (v:=.tuple #[pv (u,v') bZ bp,.int .i64 0]) (by simp[results,results106,go_sem,x0,x1,x2,x3,x4]) rfl ⟨sV (bt (bal B0 _).drew hb1) (by omega) _ _ _ _ _,.inr ⟨rfl,bp,rfl,by omega,hP1.gb (sQ (sQ (sQ (sQ (sQ (dX _ _) _ _) _ _) _ _) _ _) _ _) (by simp;omega)⟩⟩
theorem c5X (N:Nat->Prop)(bk bm n:Nat)(v:Value)(D:DataW Value)(done:List En)(nm:ByteArray)(p u v':Int)(w:World)(hB:BookM w N bk bm n v D done)(hs:nm.size<=4294967296)(b:Rq)(hbud:fX done nm=some b)(m:Rq)(ht:Top (fun p=>(mQ done nm p).1) (fun p=>p∈prs done nm) m)(hob:tQ b)(hls:tQ (u,v'))(er:Int)(her:cM b (zX done nm).1 (u,v') m=er) :
  Calls prog 106 #[.pointer (some ⟨bk,0,none⟩),ev (2,nm,p,u,v')] w (c3J w N bk bm done nm b (kQ (zX done nm).1 (u,v')).1 er):=by
 have HB:Hid (BookM w N bk bm n v D done):=hB;obtain⟨w0,hw0⟩:∃ w0,(w.alloc (.cells #[.int .i64 2,.string nm,.int .i64 p,.int .i64 u,.int .i64 v'] 53)).alloc (.cells #[.int .i64 0,.int .i64 0,.int .i64 0,.int .i64 0,.map none] 207)=w0:=⟨_,rfl⟩;have hz0:w0.heap.size=w.heap.size+1+1:=by rw[<-hw0];simp
 have B0:Below w.heap.size w w0:=by rw[<-hw0];exact bal (ba _ _) _
 have V0:Hid (FivB w0 w.heap.size (.int .i64 2) (.string nm) (.int .i64 p) (.int .i64 u) (.int .i64 v')):=by rw[<-hw0];exact(FivB.new _ _ _ _ _ _ 53 _ rfl).below (ba _ _)
 have V1:Hid (FivB w0 (w.heap.size+1) (.int .i64 0) (.int .i64 0) (.int .i64 0) (.int .i64 0) (.map none)):=by rw[<-hw0];exact FivB.new _ _ _ _ _ _ 207 _ (by simp)
 have BK:Hid (BookM w0 N bk bm n v D done):=hB.keep B0;obtain⟨bp,np,Dp,hat,hPp,hnp,hszp,hlop,hbpk,hbpm⟩:=(hB.el nm b hbud).ex;have hhas:Maps.has D (kN nm)=true:=(hB.is nm).2 ⟨b,hbud⟩;have HX:Hid (np<=done.length/\Maps.size Dp=(pZ done nm).length/\N bp/\bp≠bk/\bp≠bm):=⟨hnp,hszp,hlop,hbpk,hbpm⟩;have HPp:Hid (Pts w bp np Dp (fun p=>p∈prs done nm) (fun p=>(mQ done nm p).1)):=hPp;have HBU:Hid (fX done nm=some b):=hbud;clear hnp hszp hlop hbpk hbpm hPp hbud;obtain⟨al,hal⟩:∃ al,(zX done nm).1=al:=⟨_,rfl⟩;have HAL:Hid ((zX done nm).1=al):=hal;rw[hal] at hat;clear hal;have hlk1:=BK.out.lookAt hs hat hhas (fJ (dX w0 none));have hlk2:=BK.out.lookAt hs hat hhas (fJ (oA (dX w0 none) (.cells #[.int .i64 0,.int .i64 0,.int .i64 0,.int .i64 0,.map none] 207)));obtain⟨c0,c1,c2,c3,c4,f0,f1,f2,f3,f4,hl0⟩:=V0.out;obtain⟨d0,d1,d2,d3,d4,g0,g1,g2,g3,g4,hl1⟩:=V1.out;obtain⟨t0,t1,tf0,tf1,htl⟩:=BK.out.two;have hbk:bk<w.heap.size:=HB.out.two.lt;have hbk2:bk<w.heap.size+1+1:=by omega
 clear hB hat hhas;rw[HAL.out] at her;rw[HAL.out];have hal1:tQ al:=HAL.out▸(HB.out.inv.all nm).2;have hln:=HB.out.inv.len;have ko:=fun W (hW:Pts W bp np Dp (fun p=>p∈prs done nm) (fun p=>(mQ done nm p).1))=>c0Z b al (u,v') bp np Dp _ _ W hW (by have:=HX.out.1;omega) m ht hal1 hob hls er her;have P1:Hid (Pts (w0.alloc (.cells #[.int .i64 b.1,.int .i64 b.2,.int .i64 al.1,.int .i64 al.2,.map (some bp)] 207)).drew bp np Dp (fun p=>p∈prs done nm) (fun p=>(mQ done nm p).1)):=(HPp.out.keep (bal B0 _)).gb (fJ (dX _ none)) (by simp);have W1:Hid (FivB (w0.alloc (.cells #[.int .i64 b.1,.int .i64 b.2,.int .i64 al.1,.int .i64 al.2,.map (some bp)] 207)).drew (w.heap.size+1) (.int .i64 0) (.int .i64 0) (.int .i64 0) (.int .i64 0) (.map none)):=(V1.out.below (ba _ _)).gb (fJ (dX _ none)) (by simp);have hbpl:bp<w.heap.size:=HPp.out.own.lt;clear her hln ht;go_enter func106,ntmps106;go_wp2_with fail
 go_region
 all_goals
  by_cases her:er=0
  ·subst her
   simp only[↓reduceIte] at ko;go_wp2_with fail;refine(ko _ P1.out).mono ?_;rintro e1 w1 ⟨rfl,hb1⟩;obtain⟨x0,x1,x2,x3,x4,y0,y1,y2,y3,y4,hx⟩:=W1.out.below hb1;go_wp2_with fail;exact yQ (v:=.tuple #[pv b (kQ al (u,v')).1 bp,.int .i64 0]) (by simp[results,results106,go_sem,x0,x1,x2,x3,x4]) rfl ⟨sV (bt (bal B0 _).drew hb1) (by omega) _ _ _ _ _,.inr ⟨rfl,bp,np,Dp,rfl,(P1.out.keep hb1).gb (sQ (sQ (sQ (sQ (sQ (dX _ _) _ _) _ _) _ _) _ _) _ _) (by simp;omega),HX.out⟩⟩
  ·simp only[her,↓reduceIte] at ko
   go_wp2_with fail;refine(ko _ P1.out).mono ?_;rintro e1 w1 ⟨rfl,hb1⟩;obtain⟨x0,x1,x2,x3,x4,y0,y1,y2,y3,y4,hx⟩:=W1.out.below hb1;go_wp2_with fail;exact yQ (v:=.tuple #[zp,.int .i64 er]) (by simp[results,results106,go_sem,x0,x1,x2,x3,x4]) rfl ⟨sV (bt (bal B0 _).drew hb1) (by omega) _ _ _ _ _,.inl ⟨her,rfl⟩⟩
theorem c5Z (bud al ls:Rq)(bm:Nat)(part:Int)(w:World)(hp:part<0\/1073741824<part) :
  Calls prog 163 #[pv bud al bm,.int .i64 part,rvq ls] w fun x w'=>x=.returned (.tuple #[zp,.int .i64 3])/\Below w.heap.size w w':=by
 by_cases h:part<0
 ·clear hp
  go_enter func163,ntmps163;go_wp2_with fail;exact yQ (v:=.tuple #[zp,.int .i64 3]) (by simp[results,results163,go_sem]) rfl ⟨rfl,bal (bal (ba _ _) _) _⟩
 ·have h2:1073741824<part:=by omega
  clear hp;go_enter func163,ntmps163;go_wp2_with fail;exact yQ (v:=.tuple #[zp,.int .i64 3]) (by simp[results,results163,go_sem]) rfl ⟨rfl,bal (bal (ba _ _) _) _⟩
theorem c5J (N:Nat->Prop)(bk bm n:Nat)(v:Value)(D:DataW Value)(done:List En)(nm:ByteArray)(p u v':Int)(w:World)(hB:BookM w N bk bm n v D done)(hs:nm.size<=4294967296)(b:Rq)(hbud:fX done nm=some b)(fp:Rq)(hfp:(mQ done nm p).1=fp)(m:Rq)(ht:(kQ fp (u,v')).2=0->Top (fun y=>if y=p then (kQ fp (u,v')).1 else (mQ done nm y).1) (fun y=>y∈prs done nm\/y=p) m)(hob:tQ b)(hls:tQ (u,v'))(er:Int)(her:tH b (zX done nm).1 fp (u,v') m (decide (p∈prs done nm)) (pZ done nm).length p=er)(hpI:-9223372036854775808<=p/\p<=9223372036854775807) :
  Calls prog 106 #[.pointer (some ⟨bk,0,none⟩),ev (3,nm,p,u,v')] w (c4Q w done nm b (zX done nm).1 (kQ fp (u,v')).1 p er):=by
 have HB:Hid (BookM w N bk bm n v D done):=hB;obtain⟨w0,hw0⟩:∃ w0,(w.alloc (.cells #[.int .i64 3,.string nm,.int .i64 p,.int .i64 u,.int .i64 v'] 53)).alloc (.cells #[.int .i64 0,.int .i64 0,.int .i64 0,.int .i64 0,.map none] 207)=w0:=⟨_,rfl⟩;have hz0:w0.heap.size=w.heap.size+1+1:=by rw[<-hw0];simp
 have B0:Below w.heap.size w w0:=by rw[<-hw0];exact bal (ba _ _) _
 have V0:Hid (FivB w0 w.heap.size (.int .i64 3) (.string nm) (.int .i64 p) (.int .i64 u) (.int .i64 v')):=by rw[<-hw0];exact(FivB.new _ _ _ _ _ _ 53 _ rfl).below (ba _ _)
 have V1:Hid (FivB w0 (w.heap.size+1) (.int .i64 0) (.int .i64 0) (.int .i64 0) (.int .i64 0) (.map none)):=by rw[<-hw0];exact FivB.new _ _ _ _ _ _ 207 _ (by simp)
 have BK:Hid (BookM w0 N bk bm n v D done):=hB.keep B0;obtain⟨bp,np,Dp,hat,hPp,hnp,hszp,hlop,hbpk,hbpm⟩:=(hB.el nm b hbud).ex;have hhas:Maps.has D (kN nm)=true:=(hB.is nm).2 ⟨b,hbud⟩;have HX:Hid (np<=done.length/\Maps.size Dp=(pZ done nm).length/\N bp/\bp≠bk/\bp≠bm):=⟨hnp,hszp,hlop,hbpk,hbpm⟩;have HPp:Hid (Pts w bp np Dp (fun p=>p∈prs done nm) (fun p=>(mQ done nm p).1)):=hPp;have HBU:Hid (fX done nm=some b):=hbud;clear hnp hszp hlop hbpk hbpm hPp hbud;obtain⟨al,hal⟩:∃ al,(zX done nm).1=al:=⟨_,rfl⟩;have HAL:Hid ((zX done nm).1=al):=hal;rw[hal] at hat;clear hal;have hlk1:=BK.out.lookAt hs hat hhas (fJ (dX w0 none));have hlk2:=BK.out.lookAt hs hat hhas (fJ (oA (dX w0 none) (.cells #[.int .i64 0,.int .i64 0,.int .i64 0,.int .i64 0,.map none] 207)));obtain⟨c0,c1,c2,c3,c4,f0,f1,f2,f3,f4,hl0⟩:=V0.out;obtain⟨d0,d1,d2,d3,d4,g0,g1,g2,g3,g4,hl1⟩:=V1.out;obtain⟨t0,t1,tf0,tf1,htl⟩:=BK.out.two;have hbk:bk<w.heap.size:=HB.out.two.lt;have hbk2:bk<w.heap.size+1+1:=by omega
 clear hB hat hhas;rw[HAL.out] at her;rw[HAL.out];have hal1:tQ al:=HAL.out▸(HB.out.inv.all nm).2;have hln:=HB.out.inv.len;have hof:tQ fp:=hfp▸(HB.out.inv.prt nm p).2;have hnpb:np+1<=1048576:=by have:=HX.out.1;omega
 have ko:∀ W,Pts W bp np Dp (fun p=>p∈prs done nm) (fun p=>(mQ done nm p).1)->Calls prog 163 #[pv b al bp,.int .i64 p,rvq (u,v')] W (rB W b al np (pZ done nm).length (decide (p∈prs done nm)) (fun p=>p∈prs done nm) (fun p=>(mQ done nm p).1) p (kQ fp (u,v')).1 er):=fun W hW=>by
  by_cases hr:0<=p/\p<=1073741824
  ·cases hth:decide (p∈prs done nm) with
   | true =>
    rw[hth] at her;exact c0J b al (u,v') fp bp np _ Dp _ _ p W hW hnpb HX.out.2.1 hr (cH hth) hfp hof m ht hal1 hob hls er her
   | false =>
    rw[hth] at her;have hno:¬ p∈prs done nm:=jN hth;exact c1Q b al (u,v') fp bp np _ Dp _ _ p W hW hnpb HX.out.2.1 hr hno (by rw[<-hfp,csJ hno]) hof m ht hal1 hob hls er her
  ·have he3:3=er:=by rw[<-her,tH,xQ (by omega)]
   subst he3;refine(c5Z b al (u,v') bp p W (by omega)).mono ?_;rintro x w' ⟨h1,h2⟩;exact⟨h2,.inl ⟨by decide,h1⟩⟩
 have P1:Hid (Pts (w0.alloc (.cells #[.int .i64 b.1,.int .i64 b.2,.int .i64 al.1,.int .i64 al.2,.map (some bp)] 207)).drew bp np Dp (fun p=>p∈prs done nm) (fun p=>(mQ done nm p).1)):=(HPp.out.keep (bal B0 _)).gb (fJ (dX _ none)) (by simp);have W1:Hid (FivB (w0.alloc (.cells #[.int .i64 b.1,.int .i64 b.2,.int .i64 al.1,.int .i64 al.2,.map (some bp)] 207)).drew (w.heap.size+1) (.int .i64 0) (.int .i64 0) (.int .i64 0) (.int .i64 0) (.map none)):=(V1.out.below (ba _ _)).gb (fJ (dX _ none)) (by simp);have hbpl:bp<w.heap.size:=HPp.out.own.lt;clear her hln ht hfp;go_enter func106,ntmps106;go_wp2_with fail
 go_region
 all_goals
  go_wp2_with fail;refine(ko _ P1.out).mono ?_;rintro e1 w1 ⟨hb1,⟨hne,rfl⟩|⟨rfl,b2,D2,rfl,hlo2,hP2,hsz2⟩⟩
  ·obtain⟨x0,x1,x2,x3,x4,y0,y1,y2,y3,y4,hx⟩:=W1.out.below hb1
   go_wp2_with fail;exact yQ (v:=.tuple #[zp,.int .i64 er]) (by simp[results,results106,go_sem,x0,x1,x2,x3,x4]) rfl ⟨sV (bt (bal B0 _).drew hb1) (by omega) _ _ _ _ _,.inl ⟨hne,rfl⟩⟩
  ·obtain⟨x0,x1,x2,x3,x4,y0,y1,y2,y3,y4,hx⟩:=W1.out.below hb1
   have hlo3:w.heap.size+1+1<b2:=by simp[hz0] at hlo2;omega
   go_wp2_with fail;exact yQ (v:=.tuple #[pv b al b2,.int .i64 0]) (by simp[results,results106,go_sem,x0,x1,x2,x3,x4]) rfl ⟨sV (bt (bal B0 _).drew hb1) (by omega) _ _ _ _ _,.inr ⟨rfl,b2,np,D2,rfl,hP2.gb (sQ (sQ (sQ (sQ (sQ (dX _ _) _ _) _ _) _ _) _ _) _ _) (by simp;omega),HX.out.1,hsz2,by omega⟩⟩
theorem Pts.congr {w:World}{b n:Nat}{D:DataW Value}{P Q:Int->Prop}{f g:Int->Rq}(h:Pts w b n D P f)(hP:∀ z,P z↔Q z)(hf:∀ z,P z->f z=g z):Pts w b n D Q g :=
 ⟨h.own,fun z=>(h.is z).trans (hP z),fun z hz=>by rw[h.el z ((hP z).2 hz),hf z ((hP z).2 hz)],fun z hz=>h.rng z ((hP z).2 hz)⟩
theorem sB (e:En):sZ (nrm e)=sZ e:=by unfold sZ;rw[cqX,uB,cqZ]
theorem alJ (N:Nat->Prop)(bk bm n:Nat)(v:Value)(D:DataW Value)(done:List En)(e:En)(w:World)(hB:BookM w N bk bm n v D done)(hs:e.2.1.size<=4294967296)(hN:∀ k,w.heap.size<=k->N k)(hbad:sZ e=0)(hl:done.length<4096)(hpI:-9223372036854775808<=e.2.2.1/\e.2.2.1<=9223372036854775807)(er:Int)(her:cZ done (nrm e)=er) :
  Calls prog 106 #[.pointer (some ⟨bk,0,none⟩),ev e] w (c3X w N bk bm done (nrm e) er):=by
 have hbad':sZ (nrm e)=0:=by rw[sB];exact hbad
 obtain⟨b1,b2,b3,b4⟩:=xH hbad;have hinv:=hB.inv;have hbmlt:=hB.own.lt;have hbklt:=hB.two.lt;obtain⟨d,nm,p,u,v'⟩:=e;simp only at hs b1 b2 b3 b4 hpI;have hd:d=1\/d=2\/d=3:=by omega
 rcases hd with rfl|rfl|rfl
 ·rw[show nrm (1,nm,p,u,v')=(1,nm,0,u,v') from by simp[nrm]] at *
  rw[sN hbad' hl] at her;cases hbud:fX done nm with
  | some b =>
   simp only[hbud,↓reduceIte] at her;subst her;refine(c4X N bk bm n v D done nm p u v' w hB hs b hbud).mono ?_;rintro x w' ⟨h1,h2⟩;exact⟨h1,.inl ⟨by decide,h2⟩⟩
  | none =>
   simp only[hbud,↓reduceIte] at her;refine(c5Q N bk bm n v D done nm p u v' w hB hs hbud _ rfl er her).mono ?_;rintro x w' ⟨h1,h2|⟨h2,bp,h3,h4,h5⟩⟩
   ·exact⟨h1,.inl h2⟩
   ·obtain⟨k1,k2⟩:=c2J hinv hbud
    have k3:prs (done++[(1,nm,0,u,v')]) nm=[]:=by rw[oN (by simp)];exact k1
    have k4:zX (done++[(1,nm,0,u,v')]) nm=(bZ,0):=by rw[bM (by simp)];exact k2
    refine⟨h1,.inr ⟨h2,(u,v'),bp,0,_,by rw[k4];exact h3,?_,h5.congr (fun z=>by simp[k3]) (fun _ h=>h.elim),by omega,?_,hN _ (by omega),by omega,by omega⟩⟩
    ·rw[pK,hbud];simp
    ·simp[pZ,k3,aD,Maps.size]
 ·rw[show nrm (2,nm,p,u,v')=(2,nm,0,u,v') from by simp[nrm]] at *
  cases hbud:fX done nm with
  | none =>
   rw[sN hbad' hl] at her;simp only[hbud] at her;rw[qQ (by decide)] at her;subst her;refine(c4Z N bk bm n v D done nm p u v' w hB hs hbud).mono ?_;rintro x w' ⟨h1,h2⟩;exact⟨h1,.inl ⟨by decide,h2⟩⟩
  | some b =>
   rw[c2X hinv hbad' hl rfl hbud] at her
   have hob:tQ b:=by
    unfold fX at hbud;simp only[gO] at hbud;obtain⟨x,hx,rfl⟩:=hbud;exact(xH (hinv.bad x (List.mem_of_find?_eq_some hx)).1).2.2.2
   refine(c5X N bk bm n v D done nm p u v' w hB hs b hbud _ (hinv.top nm).2 hob b4 er her).mono ?_;rintro x w' ⟨h1,h2|⟨h2,bp,np,Dp,h3,h4,h5,h6,h7⟩⟩
   ·exact⟨h1,.inl h2⟩
   ·have k3:prs (done++[(2,nm,0,u,v')]) nm=prs done nm:=oN (by simp)
    have k5:mQ (done++[(2,nm,0,u,v')]) nm=mQ done nm:=funext fun y=>rK (by simp)
    have k4:zX (done++[(2,nm,0,u,v')]) nm=kQ (zX done nm).1 (u,v'):=by
     rcases eB (e:=(2,nm,0,u,v')) hinv rfl b4 with⟨j1,_⟩|⟨_,_,j3,_⟩
     ·exfalso
      rw[h2] at her;unfold cM at her;simp only at j1;rw[j1] at her;simp at her
     ·exact j3
    refine⟨h1,.inr ⟨h2,b,bp,np,Dp,by simp only[k4];exact h3,?_,?_,by omega,?_,h7⟩⟩
    ·rw[pK,hbud];simp
    ·simp only[k3,k5];exact h4
    ·simp only[pZ,k3];exact h6
 ·rw[show nrm (3,nm,p,u,v')=(3,nm,p,u,v') from by simp[nrm]] at *
  cases hbud:fX done nm with
  | none =>
   rw[sN hbad' hl] at her;simp only[hbud] at her;rw[qQ (by decide)] at her;subst her;refine(c4J N bk bm n v D done nm p u v' w hB hs hbud).mono ?_;rintro x w' ⟨h1,h2⟩;exact⟨h1,.inl ⟨by decide,h2⟩⟩
  | some b =>
   have hob:tQ b:=by
    unfold fX at hbud;simp only[gO] at hbud;obtain⟨x,hx,rfl⟩:=hbud;exact(xH (hinv.bad x (List.mem_of_find?_eq_some hx)).1).2.2.2
   have k3:∀ z,z∈prs (done++[(3,nm,p,u,v')]) nm↔(z∈prs done nm\/z=p):=fun z=>by rw[rP,xQ ⟨rfl,rfl⟩];simp
   have k5:(kQ (mQ done nm p).1 (u,v')).2=0->∀ z,(mQ (done++[(3,nm,p,u,v')]) nm z).1=if z=p then (kQ (mQ done nm p).1 (u,v')).1 else (mQ done nm z).1:=fun h0 z=>by
    by_cases hz:z=p
    ·subst hz
     have:=agX (e:=(3,nm,z,u,v')) hinv rfl;simp only at this;rw[this,xQ h0];simp
    ·rw[qQ hz,rK (fun c=>hz c.2.2.symm)]
   obtain⟨m,hm⟩:∃ m,(kQ (mQ done nm p).1 (u,v')).2=0->Top (fun y=>(mQ (done++[(3,nm,p,u,v')]) nm y).1) (fun y=>y∈prs (done++[(3,nm,p,u,v')]) nm) m:=by
    rcases fB (e:=(3,nm,p,u,v')) hinv rfl b4 with⟨j1,_⟩|⟨_,_,_,_,m,j5⟩
    ·simp only at j1
     exact⟨bZ,fun h=>by rw[j1] at h;simp at h⟩
    ·exact⟨m,fun _=>j5⟩
   rw[c2Z hinv hbad' hl rfl hbud m hm] at her;refine(c5J N bk bm n v D done nm p u v' w hB hs b hbud _ rfl m (fun h0=>(hm h0).congr k3 (fun z _=>k5 h0 z)) hob b4 er her hpI).mono ?_;rintro x w' ⟨h1,h2|⟨h2,bp,np,Dp,h3,h4,h5,h6,h7⟩⟩
   ·exact⟨h1,.inl h2⟩
   ·have h0:(kQ (mQ done nm p).1 (u,v')).2=0:=by
     rcases oK (hinv.prt nm p).2 b4 with⟨j1,_⟩|j1
     ·exact j1
     ·exfalso
      rw[h2] at her;unfold tH at her;simp only[j1] at her;split at her
      ·omega
      ·split at her
       ·omega
       ·simp at her
    have k4:zX (done++[(3,nm,p,u,v')]) nm=zX done nm:=bM (by simp);refine⟨h1,.inr ⟨h2,b,bp,np+1,Dp,by simp only[k4];exact h3,?_,h4.congr (fun z=>(k3 z).symm) (fun z _=>(k5 h0 z).symm),by omega,?_,hN _ (by omega),by omega,by omega⟩⟩
    ·rw[pK,hbud];simp
    ·simp only
     rw[h6,dB];by_cases c:p∈prs done nm
     ·have c':p∈pZ done nm:=(sP _ _ _).2 c
      simp[c,c']
     ·have c':p ∉ pZ done nm:=fun k=>c ((sP _ _ _).1 k)
      simp[c,c']
structure Keeps (w w':World) (N:Nat->Prop):Prop where
 os:w'.os=w.os
 tape:w'.tape=w.tape
 output:w'.output=w.output
 size:w.heap.size<=w'.heap.size
 block:∀ k,k<w.heap.size->¬ N k->w'.heap[k]? = w.heap[k]?
theorem Keeps.trans {a b c:World}{N:Nat->Prop}(h:Keeps a b N)(k:Keeps b c N):Keeps a c N :=
 ⟨k.os.trans h.os,k.tape.trans h.tape,k.output.trans h.output,uQ h.size k.size,fun i hi hr=>(k.block i (qX hi h.size) hr).trans (h.block i hi hr)⟩
theorem oQ {a b:World}{N:Nat->Prop}(h:Below a.heap.size a b):Keeps a b N:=⟨h.os,h.tape,h.output,h.size,fun k hk _=>h.block k hk⟩
theorem elJ {a b:World}{N:Nat->Prop}{r:Option Nat}(h:a.grownBy b r)(hr:∀ k,r=some k->N k\/a.heap.size<=k):Keeps a b N:=⟨h.os,h.tape,h.output,h.size,fun k hk hn=>h.block k hk (fun e=>by rcases hr k e.symm with h|h;exact hn h;omega)⟩
theorem tB {a b c:World}{N:Nat->Prop}{r:Option Nat}(h:Keeps a b N)(k:b.grownBy c r)(hr:∀ k,r=some k->N k\/a.heap.size<=k):Keeps a c N :=
 ⟨k.os.trans h.os,k.tape.trans h.tape,k.output.trans h.output,uQ h.size k.size,fun i hi hn=>(k.block i (qX hi h.size) (fun e=>by rcases hr i e.symm with h|h;exact hn h;omega)).trans (h.block i hi hn)⟩
def DoP (w:World) (N:Nat->Prop) (bk bm:Nat) (done:List En) (e:En):Ending->World->Prop:=fun x w' =>
 x=.returned (.int .i64 (cZ done (nrm e)))/\Keeps w w' N/\∃ n v D,BookM w' N bk bm n v D (iU done e)
theorem wN:(prog.info? 53).map (fun i=>(i.zero,i.size,i.bytes))=some (some (.agg #[.int .i64 0,.string ⟨#[]⟩,.int .i64 0,.int .i64 0,.int .i64 0]),5,48):=by kernel_rfl
theorem BookM.slice {w:World}{N:Nat->Prop}{bk bm n:Nat}{v:Value}{D:DataW Value}{done:List En}(h:BookM w N bk bm n v D done):∃ a c,v=.slice a done.length c:=by
 rcases h.row.2 with⟨hv,h0⟩|⟨g,cap,cur,hv,_⟩
 ·exact⟨none,0,by rw[hv,h0]⟩
 ·exact⟨_,_,hv⟩
theorem c6Q (N:Nat->Prop)(bk bm n:Nat)(v:Value)(D:DataW Value)(done:List En)(e:En)(w:World)(hB:BookM w N bk bm n v D done)(hs:e.2.1.size<=9223372036854775807)(hb:sZ e≠0\/4096<=done.length) :
  Calls prog 60 #[.pointer (some ⟨bk,0,none⟩),ev e] w fun x w'=>x=.returned (.int .i64 (cZ done (nrm e)))/\Below w.heap.size w w':=by
 obtain⟨er,her⟩:∃ er,cZ done (nrm e)=er:=⟨_,rfl⟩;rw[her];obtain⟨eb,heb⟩:∃ eb,sZ e=eb:=⟨_,rfl⟩;have kw:=fun W=>fI e (by omega) W eb heb;have hbk:=hB.two.lt;obtain⟨va,vc,rfl⟩:=hB.slice;unfold cZ at her;rw[sB,heb] at her;by_cases h0:eb=0
 ·subst h0
  have hl:4096<=done.length:=by rcases hb with h|h;exact absurd heb h;exact h
  rw[qQ (by simp),xQ hl] at her;subst her;have hq:decide ((4096:Int)<=(done.length:Int))=true:=vG (by omega);have T0:Hid (TwoB w bk (.map (some bm)) (.slice va done.length vc)):=hB.two;clear hb hl heb hB;obtain⟨d,nm,p,u,v'⟩:=e;go_enter func60,ntmps60;go_wp2_with fail;refine(kw _).mono ?_;rintro e1 w1 ⟨rfl,hb1⟩;obtain⟨t0,t1,tf0,tf1,htl⟩:=(T0.out.below (ba _ _)).below hb1;go_wp2_with fail;go_ret;exact⟨rfl,bt (ba _ _) hb1⟩
 ·rw[xQ h0] at her
  subst her;clear hb heb hB;obtain⟨d,nm,p,u,v'⟩:=e;go_enter func60,ntmps60;go_wp2_with fail;refine(kw _).mono ?_;rintro e1 w1 ⟨rfl,hb1⟩;go_wp2_with fail;go_ret;exact⟨rfl,bt (ba _ _) hb1⟩
theorem c6X (N:Nat->Prop)(bk bm n:Nat)(v:Value)(D:DataW Value)(done:List En)(e:En)(w:World)(hB:BookM w N bk bm n v D done)(hs:e.2.1.size<=4294967296)(hN:∀ k,w.heap.size<=k->N k)(hbad:sZ e=0)(hl:done.length<4096)(hpI:-9223372036854775808<=e.2.2.1/\e.2.2.1<=9223372036854775807)(er:Int)(her:cZ done (nrm e)=er)(h0:er≠0) :
  Calls prog 60 #[.pointer (some ⟨bk,0,none⟩),ev e] w fun x w'=>x=.returned (.int .i64 er)/\Below w.heap.size w w':=by
 have kw:=fun W=>fI e (by omega) W 0 hbad;have ka:=fun W (hW:BookM W N bk bm n v D done) (hNW:∀ k,W.heap.size<=k->N k)=>alJ N bk bm n v D done e W hW hs hNW hbad hl hpI er her;have HB:Hid (BookM w N bk bm n v D done):=hB;have hbk:=hB.two.lt;obtain⟨va,vc,rfl⟩:=hB.slice;have hq:decide ((4096:Int)<=(done.length:Int))=false:=nV (by omega);obtain⟨d,nm,p,u,v'⟩:=e;have V0:Hid (FivB (w.alloc (.cells #[.int .i64 d,.string nm,.int .i64 p,.int .i64 u,.int .i64 v'] 53)) w.heap.size (.int .i64 d) (.string nm) (.int .i64 p) (.int .i64 u) (.int .i64 v')):=FivB.new _ _ _ _ _ _ 53 _ rfl;clear hbad her hB;go_enter func60,ntmps60;go_wp2_with fail;refine(kw _).mono ?_;rintro e1 w1 ⟨rfl,hb1⟩;have B1:=bt (ba _ _) hb1;have BK1:=HB.out.keep B1;obtain⟨t0,t1,tf0,tf1,htl⟩:=BK1.two;obtain⟨c0,c1,c2,c3,c4,f0,f1,f2,f3,f4,hl0⟩:=V0.out.below hb1;go_wp2_with fail;refine(ka _ BK1 (fun k hk=>hN k (uQ B1.size hk))).mono ?_;rintro e2 w2 ⟨hb2,⟨_,rfl⟩|⟨hz,_⟩⟩
 ·have hq2:(er != 0)=true:=by simpa using h0
  go_wp2_with fail;go_ret;exact⟨rfl,bal (bt B1 hb2) _⟩
 ·exact absurd hz h0
theorem kY {w w':World}{b k:Nat}{v:Value}{N:Nat->Prop}(h:Cl w b k v)(hk:Keeps w w' N)(hn:¬ N b):Cl w' b k v :=
 have e:=hk.block b h.lt hn
 ⟨(mZ (w:=w) (a:=⟨b,k,none⟩) e).trans h.c,(zV (w:=w) (a:=⟨b,k,none⟩) e).trans h.f,qX h.lt hk.size⟩
theorem eX {a b:World}{N:Nat->Prop}(h:Keeps a b N){p:Addr}(hp:N p.block\/a.heap.size<=p.block)(u:Value):Keeps a (b.setCell p u) N :=
 ⟨h.os,h.tape,h.output,by simp[World.setCell];exact h.size,fun k hk hn=>(xL _ _ _ _ (by rintro rfl;rcases hp with c|c;exact hn c;omega)).trans (h.block k hk hn)⟩
structure DskM (w:World) (bd bw:Nat) (a:Option Addr) (c:Nat) (disk:List Int) (left:Int):Prop where
 c0:Cl w bd 0 (.slice a disk.length c)
 c1:Cl w bd 1 (.int .i64 left)
 c2:Cl w bd 2 (.bool false)
 ad:disk≠[]->a=some ⟨bw,0,none⟩
 ar:∀ i x,disk[i]? = some x->Cl w bw i (.int .i64 x)
 cp:disk.length<=c
 ne:bd≠bw
theorem DskM.kp {w w':World}{bd bw:Nat}{a:Option Addr}{c:Nat}{disk:List Int}{left:Int}{N:Nat->Prop}(h:DskM w bd bw a c disk left)(hk:Keeps w w' N)(h1:¬ N bd)(h2:¬ N bw):DskM w' bd bw a c disk left :=
 ⟨kY h.c0 hk h1,kY h.c1 hk h1,kY h.c2 hk h1,h.ad,fun i x hi=>kY (h.ar i x hi) hk h2,h.cp,h.ne⟩
theorem DskM.at {w w':World}{bd bw:Nat}{a:Option Addr}{c:Nat}{disk:List Int}{left:Int}(h:DskM w bd bw a c disk left)(hb:Below w.heap.size w w'):DskM w' bd bw a c disk left :=
 h.kp (N:=fun _=>False) (oQ hb) (fun h=>h) (fun h=>h)
theorem DskM.left {w:World}{bd bw:Nat}{a:Option Addr}{c:Nat}{disk:List Int}{left:Int}(h:DskM w bd bw a c disk left)(l':Int):DskM (w.setCell ⟨bd,1,none⟩ (.int .i64 l')) bd bw a c disk l' :=
 ⟨h.c0.oth (.inr (by decide)) _,h.c1.set _,h.c2.oth (.inr (by decide)) _,h.ad,fun i x hi=>(h.ar i x hi).oth (.inl h.ne) _,h.cp,h.ne⟩
theorem DskM.put {w:World}{bd bw:Nat}{a:Option Addr}{c:Nat}{disk:List Int}{left:Int}(h:DskM w bd bw a c disk left){i:Nat}(hi:i<disk.length)(x:Int):DskM (w.setCell ⟨bw,i,none⟩ (.int .i64 x)) bd bw a c (disk.set i x) left:=by
 have h0:Cl (w.setCell ⟨bw,i,none⟩ (.int .i64 x)) bd 0 (.slice a (disk.set i x).length c):=by rw[yL];exact h.c0.oth (b':=bw) (k':=i) (.inl h.ne.symm) (.int .i64 x)
 refine⟨h0,h.c1.oth (.inl h.ne.symm) _,h.c2.oth (.inl h.ne.symm) _,fun hne=>h.ad (by rintro rfl;simp at hi),fun j y hj=>?_,by rw[yL];exact h.cp,h.ne⟩;by_cases c:i=j
 ·subst c
  rw[lA hi] at hj;cases hj;obtain⟨z,hz⟩:∃ z,disk[i]? = some z:=⟨_,dZ hi⟩;exact(h.ar i z hz).set _
 ·rw[yG c] at hj
  exact(h.ar j y hj).oth (.inr c) _
theorem c6Z (bd bw:Nat)(a:Option Addr)(c:Nat)(disk:List Int)(left:Int)(w:World)(h:DskM w bd bw a c disk left) :
  Calls prog 300 #[.pointer (some ⟨bd,0,none⟩)] w fun e w'=>e=.returned (.int .i64 disk.length)/\w' = w:=by
 have m0:=h.c0.c;go_enter func300,ntmps300;go_wp2;go_ret;exact⟨rfl,rfl⟩
theorem c6J (bd bw:Nat)(a:Option Addr)(c:Nat)(disk:List Int)(left:Int)(i:Nat)(x:Int)(w:World)(h:DskM w bd bw a c disk left)(hx:disk[i]? = some x) :
  Calls prog 298 #[.pointer (some ⟨bd,0,none⟩),.int .i64 i] w fun e w'=>e=.returned (.int .i64 x)/\w' = w:=by
 have m0:=h.c0.c;have hi:i<disk.length:=(lQ.1 hx).1;have hc:=h.cp;have ha:=h.ad (by rintro rfl;simp at hi);subst ha;have m1:=(h.ar i x hx).c;have q1:¬ ((i:Int)<0):=by omega
 have q2:¬ ((disk.length:Int)<=(i:Int)):=by omega
 clear h;go_enter func298,ntmps298;go_wp2;go_ret;exact⟨rfl,rfl⟩
def c7Q (bd bw:Nat) (a:Option Addr) (c:Nat) (d':List Int) (l':Int) (ok:Bool) (w:World):Ending->World->Prop:=fun e w' =>
 e=.returned (.bool ok)/\DskM w' bd bw a c d' l'/\Keeps w w' (fun k=>k=bd\/k=bw)/\w'.heap.size=w.heap.size
theorem c7X (bd bw:Nat)(a:Option Addr)(c:Nat)(disk:List Int)(left:Int)(i:Nat)(x:Int)(w:World)(h:DskM w bd bw a c disk left)(hi:i<disk.length)(hl:-9223372036854775808<=left/\left<=9223372036854775807)(d':List Int)(l':Int)(ok:Bool)(hp:iX disk left [(i,x)]=(d',l',ok)) :
  Calls prog 299 #[.pointer (some ⟨bd,0,none⟩),.int .i64 i,.int .i64 x] w (c7Q bd bw a c d' l' ok w):=by
 have H:Hid (DskM w bd bw a c disk left):=h;have m0:=h.c0.c;have hc:=h.cp;have ha:=h.ad (by rintro rfl;simp at hi);subst ha;obtain⟨y,hy⟩:∃ y,disk[i]? = some y:=⟨_,dZ hi⟩;have m1:=(h.ar i y hy).c;have n1:=(h.ar i y hy).f;have m2:=h.c1.c;have n2:=h.c1.f;have hne:=h.ne;have q1:¬ ((i:Int)<0):=by omega
 have q2:¬ ((disk.length:Int)<=(i:Int)):=by omega
 clear h hy;by_cases c0:left=0
 ·subst c0
  simp only[iX,zD,cQ] at hp;obtain⟨rfl,rfl,rfl⟩:=hp;go_enter func299,ntmps299;go_wp2;go_ret;exact⟨rfl,H.out,oQ (aQ _ _),rfl⟩
 ·simp only[iX,qQ c0,cQ] at hp
  obtain⟨rfl,rfl,rfl⟩:=hp;have q3:(left == 0)=false:=by simpa using c0
  by_cases c1:0<left
  ·rw[xQ c1]
   have q4:IntKind.i64.wrap (left - 1)=left - 1:=by rw[bJ];omega
   go_enter func299,ntmps299;go_wp2;go_ret;exact⟨rfl,(H.out.left _).put hi _,eX (eX (oQ (aQ _ _)) (.inl (.inl rfl)) _) (.inl (.inr rfl)) _,by simp[World.setCell]⟩
  ·rw[qQ c1]
   go_enter func299,ntmps299;go_wp2;go_ret;exact⟨rfl,H.out.put hi _,eX (oQ (aQ _ _)) (.inl (.inr rfl)) _,by simp[World.setCell]⟩
