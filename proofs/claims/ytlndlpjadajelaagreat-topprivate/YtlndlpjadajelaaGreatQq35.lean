import Derived.Test.YtlndlpjadajelaaGreatQq34
import Derived.Deep.AppendLies
namespace Go.Proofs.YtlndlpjadajelaaGreat.K.P
open Go.RowKit Go.Proofs.YtlndlpjadajelaaGreat.K.Ds
def AfterP (w:World) (N:Nat→Prop) (bk bm:Nat) (done:List En) (e:En) (er:Int):Ending→World→Prop:=fun x w' =>
 Below w.heap.size w w'∧((er≠0∧x=.returned (.tuple #[zp,.int .i64 er])) ∨
  (er=0∧∃ b bp np Dp,x=.returned (.tuple #[pv b (allP (done ++ [e]) e.2.1).1 bp,.int .i64 0])∧budT (done ++ [e]) e.2.1=some b ∧
   Pts w' bp np Dp (fun p=>p∈prs (done ++ [e]) e.2.1) (fun p=>(prtP (done ++ [e]) e.2.1 p).1)∧np≤done.length + 1∧Maps.size Dp=(parT (done ++ [e]) e.2.1).length∧N bp∧bp≠bk∧bp≠bm))
theorem BookM.lookAt {w:World} {N:Nat→Prop} {bk bm n:Nat} {v:Value} {D:DataW Value} {done:List En} (h:BookM w N bk bm n v D done) {x:ByteArray} (hx:x.size≤4294967296) {vv:Value} (hv:D.atKey (kN x) (.held zp)=.held vv) {t:Bool} (ht:Maps.has D (kN x)=t) {w':World} (hg:w.grownBy w' none) :
  (Instr.lookup 178 (.map (some bm)) (.string x) true).run Tryz.prog w' = .ok (.tuple #[vv,.bool t]) w':=by
 obtain ⟨v',ps,hrun,hat⟩:=(h.gb hg (by simp)).own.look_ok law9 Tryz.underlying178 (zero60 w') (zd:=.held zp) (zp:=[]) rfl (Go.WideMaps.keyOf_string_mk Tryz.underlying9 (s:=x) (by unfold maxLen; omega))
 rw [hv] at hat
 simp [hR] at hat
 rw [hrun,hat.1,ht]
theorem BookM.has_no {w:World} {N:Nat→Prop} {bk bm n:Nat} {v:Value} {D:DataW Value} {done:List En} (h:BookM w N bk bm n v D done) {x:ByteArray} (hb:budT done x=none):Maps.has D (kN x)=false∧D.atKey (kN x) (.held zp)=.held zp:=by
 have hh:Maps.has D (kN x)=false:=by
  cases hc:Maps.has D (kN x) with
  | false=>rfl
  | true=>obtain ⟨b,hb'⟩:=(h.is x).1 hc; rw [hb] at hb'; cases hb'
 exact ⟨hh,Maps.atKey_of_not_has hh _⟩
def Aft10 (w:World) (u v' er:Int):Ending→World→Prop:=fun x w'=>Below w.heap.size w w'∧((er≠0∧x=.returned (.tuple #[zp,.int .i64 er]))∨(er=0∧∃ bp,x=.returned (.tuple #[pv (u,v') oneQ bp,.int .i64 0])∧w.heap.size≤bp∧Pts w' bp 0 (.map []) (fun _=>False) (fun _=>oneQ)))
def Aft21 (w:World) (N:Nat→Prop) (bk bm:Nat) (done:List En) (nm:ByteArray) (b al:Rq) (er:Int):Ending→World→Prop:=fun x w'=>Below w.heap.size w w'∧((er≠0∧x=.returned (.tuple #[zp,.int .i64 er]))∨(er=0∧∃ bp np Dp,x=.returned (.tuple #[pv b al bp,.int .i64 0])∧Pts w' bp np Dp (fun p=>p∈prs done nm) (fun p=>(prtP done nm p).1)∧np≤done.length∧Maps.size Dp=(parT done nm).length∧N bp∧bp≠bk∧bp≠bm))
def Aft31 (w:World) (done:List En) (nm:ByteArray) (b al q:Rq) (p er:Int):Ending→World→Prop:=fun x w'=>Below w.heap.size w w'∧((er≠0∧x=.returned (.tuple #[zp,.int .i64 er]))∨(er=0∧∃ bp np Dp,x=.returned (.tuple #[pv b al bp,.int .i64 0])∧Pts w' bp (np + 1) Dp (fun y=>y∈prs done nm∨y=p) (fun y=>if y=p then q else (prtP done nm y).1)∧np≤done.length∧Maps.size Dp=(if decide (p∈prs done nm) then (parT done nm).length else (parT done nm).length + 1)∧w.heap.size≤bp))
set_option maxHeartbeats 800000 in
set_option maxRecDepth 100000 in
theorem after11_any (N:Nat→Prop) (bk bm n:Nat) (v:Value) (D:DataW Value) (done:List En) (nm:ByteArray) (p u v':Int) (w:World) (hB:BookM w N bk bm n v D done) (hs:nm.size≤4294967296) (b:Rq) (hbud:budT done nm=some b) :
  Calls Tryz.prog 152 #[.pointer (some ⟨bk,0,none⟩),ev (1,nm,p,u,v')] w fun x w'=>Below w.heap.size w w'∧x=.returned (.tuple #[zp,.int .i64 7]):=by
 have HB:Hid (BookM w N bk bm n v D done):=hB
 obtain ⟨w0,hw0⟩:∃ w0,(w.alloc (.cells #[.int .i64 1,.string nm,.int .i64 p,.int .i64 u,.int .i64 v'] 87)).alloc (.cells #[.int .i64 0,.int .i64 0,.int .i64 0,.int .i64 0,.map none] 183)=w0:=⟨_,rfl⟩
 have hz0:w0.heap.size=w.heap.size + 1 + 1:=by rw [← hw0]; simp
 have B0:Below w.heap.size w w0:=by rw [← hw0]; exact bal (ba _ _) _
 have V0:Hid (FivB w0 w.heap.size (.int .i64 1) (.string nm) (.int .i64 p) (.int .i64 u) (.int .i64 v')):=by rw [← hw0]; exact (FivB.new _ _ _ _ _ _ 87 _ rfl).below (ba _ _)
 have V1:Hid (FivB w0 (w.heap.size + 1) (.int .i64 0) (.int .i64 0) (.int .i64 0) (.int .i64 0) (.map none)):=by rw [← hw0]; exact FivB.new _ _ _ _ _ _ 183 _ (by simp)
 have BK:Hid (BookM w0 N bk bm n v D done):=hB.keep B0
 obtain ⟨bp,np,Dp,hat,hPp,hnp,hszp,hlop,hbpk,hbpm⟩:=(hB.el nm b hbud).ex
 have hhas:Maps.has D (kN nm)=true:=(hB.is nm).2 ⟨b,hbud⟩
 have HX:Hid (np≤done.length∧Maps.size Dp=(parT done nm).length∧N bp∧bp≠bk∧bp≠bm):=⟨hnp,hszp,hlop,hbpk,hbpm⟩
 have HPp:Hid (Pts w bp np Dp (fun p=>p∈prs done nm) (fun p=>(prtP done nm p).1)):=hPp
 have HBU:Hid (budT done nm=some b):=hbud
 clear hnp hszp hlop hbpk hbpm hPp hbud
 obtain ⟨al,hal⟩:∃ al,(allP done nm).1=al:=⟨_,rfl⟩
 have HAL:Hid ((allP done nm).1=al):=hal
 rw [hal] at hat
 clear hal
 have hlk1:=BK.out.lookAt hs hat hhas (gb_drew (gb_refl w0 none))
 have hlk2:=BK.out.lookAt hs hat hhas (gb_drew (gb_alloc (gb_refl w0 none) (.cells #[.int .i64 0,.int .i64 0,.int .i64 0,.int .i64 0,.map none] 183)))
 obtain ⟨c0,c1,c2,c3,c4,f0,f1,f2,f3,f4,hl0⟩:=V0.out
 obtain ⟨d0,d1,d2,d3,d4,g0,g1,g2,g3,g4,hl1⟩:=V1.out
 obtain ⟨t0,t1,tf0,tf1,htl⟩:=BK.out.two
 have hbk:bk < w.heap.size:=HB.out.two.lt
 have hbk2:bk < w.heap.size + 1 + 1:=by omega
 clear hB hat hhas
 go_enter Tryz.func152,Tryz.ntmps152
 go_wp2_with fail
 go_region
 all_goals go_wp2_with fail
 all_goals exact bodyPost_ret (v:=.tuple #[zp,.int .i64 7]) (by simp [results,Tryz.results152,go_sem,d0,d1,d2,d3,d4,hl1]) rfl ⟨(bal (bs5 B0 (by omega) _ _ _ _ _) _).drew,rfl⟩
set_option maxHeartbeats 800000 in
set_option maxRecDepth 100000 in
theorem after20_any (N:Nat→Prop) (bk bm n:Nat) (v:Value) (D:DataW Value) (done:List En) (nm:ByteArray) (p u v':Int) (w:World) (hB:BookM w N bk bm n v D done) (hs:nm.size≤4294967296) (hbud:budT done nm=none) :
  Calls Tryz.prog 152 #[.pointer (some ⟨bk,0,none⟩),ev (2,nm,p,u,v')] w fun x w'=>Below w.heap.size w w'∧x=.returned (.tuple #[zp,.int .i64 7]):=by
 have HB:Hid (BookM w N bk bm n v D done):=hB
 obtain ⟨w0,hw0⟩:∃ w0,(w.alloc (.cells #[.int .i64 2,.string nm,.int .i64 p,.int .i64 u,.int .i64 v'] 87)).alloc (.cells #[.int .i64 0,.int .i64 0,.int .i64 0,.int .i64 0,.map none] 183)=w0:=⟨_,rfl⟩
 have hz0:w0.heap.size=w.heap.size + 1 + 1:=by rw [← hw0]; simp
 have B0:Below w.heap.size w w0:=by rw [← hw0]; exact bal (ba _ _) _
 have V0:Hid (FivB w0 w.heap.size (.int .i64 2) (.string nm) (.int .i64 p) (.int .i64 u) (.int .i64 v')):=by rw [← hw0]; exact (FivB.new _ _ _ _ _ _ 87 _ rfl).below (ba _ _)
 have V1:Hid (FivB w0 (w.heap.size + 1) (.int .i64 0) (.int .i64 0) (.int .i64 0) (.int .i64 0) (.map none)):=by rw [← hw0]; exact FivB.new _ _ _ _ _ _ 183 _ (by simp)
 have BK:Hid (BookM w0 N bk bm n v D done):=hB.keep B0
 obtain ⟨hhas,hat⟩:=hB.has_no hbud
 have HBU:Hid (budT done nm=none):=hbud
 clear hbud
 have hlk1:=BK.out.lookAt hs hat hhas (gb_drew (gb_refl w0 none))
 have hlk2:=BK.out.lookAt hs hat hhas (gb_drew (gb_alloc (gb_refl w0 none) (.cells #[.int .i64 0,.int .i64 0,.int .i64 0,.int .i64 0,.map none] 183)))
 obtain ⟨c0,c1,c2,c3,c4,f0,f1,f2,f3,f4,hl0⟩:=V0.out
 obtain ⟨d0,d1,d2,d3,d4,g0,g1,g2,g3,g4,hl1⟩:=V1.out
 obtain ⟨t0,t1,tf0,tf1,htl⟩:=BK.out.two
 have hbk:bk < w.heap.size:=HB.out.two.lt
 have hbk2:bk < w.heap.size + 1 + 1:=by omega
 clear hB hat hhas
 go_enter Tryz.func152,Tryz.ntmps152
 go_wp2_with fail
 go_region
 all_goals go_wp2_with fail
 all_goals exact bodyPost_ret (v:=.tuple #[zp,.int .i64 7]) (by simp [results,Tryz.results152,go_sem,d0,d1,d2,d3,d4,hl1]) rfl ⟨(bal (bs5 B0 (by omega) _ _ _ _ _) _).drew,rfl⟩
set_option maxHeartbeats 800000 in
set_option maxRecDepth 100000 in
theorem after30_any (N:Nat→Prop) (bk bm n:Nat) (v:Value) (D:DataW Value) (done:List En) (nm:ByteArray) (p u v':Int) (w:World) (hB:BookM w N bk bm n v D done) (hs:nm.size≤4294967296) (hbud:budT done nm=none) :
  Calls Tryz.prog 152 #[.pointer (some ⟨bk,0,none⟩),ev (3,nm,p,u,v')] w fun x w'=>Below w.heap.size w w'∧x=.returned (.tuple #[zp,.int .i64 7]):=by
 have HB:Hid (BookM w N bk bm n v D done):=hB
 obtain ⟨w0,hw0⟩:∃ w0,(w.alloc (.cells #[.int .i64 3,.string nm,.int .i64 p,.int .i64 u,.int .i64 v'] 87)).alloc (.cells #[.int .i64 0,.int .i64 0,.int .i64 0,.int .i64 0,.map none] 183)=w0:=⟨_,rfl⟩
 have hz0:w0.heap.size=w.heap.size + 1 + 1:=by rw [← hw0]; simp
 have B0:Below w.heap.size w w0:=by rw [← hw0]; exact bal (ba _ _) _
 have V0:Hid (FivB w0 w.heap.size (.int .i64 3) (.string nm) (.int .i64 p) (.int .i64 u) (.int .i64 v')):=by rw [← hw0]; exact (FivB.new _ _ _ _ _ _ 87 _ rfl).below (ba _ _)
 have V1:Hid (FivB w0 (w.heap.size + 1) (.int .i64 0) (.int .i64 0) (.int .i64 0) (.int .i64 0) (.map none)):=by rw [← hw0]; exact FivB.new _ _ _ _ _ _ 183 _ (by simp)
 have BK:Hid (BookM w0 N bk bm n v D done):=hB.keep B0
 obtain ⟨hhas,hat⟩:=hB.has_no hbud
 have HBU:Hid (budT done nm=none):=hbud
 clear hbud
 have hlk1:=BK.out.lookAt hs hat hhas (gb_drew (gb_refl w0 none))
 have hlk2:=BK.out.lookAt hs hat hhas (gb_drew (gb_alloc (gb_refl w0 none) (.cells #[.int .i64 0,.int .i64 0,.int .i64 0,.int .i64 0,.map none] 183)))
 obtain ⟨c0,c1,c2,c3,c4,f0,f1,f2,f3,f4,hl0⟩:=V0.out
 obtain ⟨d0,d1,d2,d3,d4,g0,g1,g2,g3,g4,hl1⟩:=V1.out
 obtain ⟨t0,t1,tf0,tf1,htl⟩:=BK.out.two
 have hbk:bk < w.heap.size:=HB.out.two.lt
 have hbk2:bk < w.heap.size + 1 + 1:=by omega
 clear hB hat hhas
 go_enter Tryz.func152,Tryz.ntmps152
 go_wp2_with fail
 go_region
 all_goals go_wp2_with fail
 all_goals exact bodyPost_ret (v:=.tuple #[zp,.int .i64 7]) (by simp [results,Tryz.results152,go_sem,d0,d1,d2,d3,d4,hl1]) rfl ⟨(bal (bs5 B0 (by omega) _ _ _ _ _) _).drew,rfl⟩
set_option maxHeartbeats 800000 in
set_option maxRecDepth 100000 in
theorem after10_any (N:Nat→Prop) (bk bm n:Nat) (v:Value) (D:DataW Value) (done:List En) (nm:ByteArray) (p u v':Int) (w:World) (hB:BookM w N bk bm n v D done) (hs:nm.size≤4294967296) (hbud:budT done nm=none) (k:Nat) (hk:(opsT done).length=k) (er:Int) (her:(if 64≤k then 5 else 0)=er) :
  Calls Tryz.prog 152 #[.pointer (some ⟨bk,0,none⟩),ev (1,nm,p,u,v')] w (Aft10 w u v' er):=by
 have HB:Hid (BookM w N bk bm n v D done):=hB
 obtain ⟨w0,hw0⟩:∃ w0,(w.alloc (.cells #[.int .i64 1,.string nm,.int .i64 p,.int .i64 u,.int .i64 v'] 87)).alloc (.cells #[.int .i64 0,.int .i64 0,.int .i64 0,.int .i64 0,.map none] 183)=w0:=⟨_,rfl⟩
 have hz0:w0.heap.size=w.heap.size + 1 + 1:=by rw [← hw0]; simp
 have B0:Below w.heap.size w w0:=by rw [← hw0]; exact bal (ba _ _) _
 have V0:Hid (FivB w0 w.heap.size (.int .i64 1) (.string nm) (.int .i64 p) (.int .i64 u) (.int .i64 v')):=by rw [← hw0]; exact (FivB.new _ _ _ _ _ _ 87 _ rfl).below (ba _ _)
 have V1:Hid (FivB w0 (w.heap.size + 1) (.int .i64 0) (.int .i64 0) (.int .i64 0) (.int .i64 0) (.map none)):=by rw [← hw0]; exact FivB.new _ _ _ _ _ _ 183 _ (by simp)
 have BK:Hid (BookM w0 N bk bm n v D done):=hB.keep B0
 obtain ⟨hhas,hat⟩:=hB.has_no hbud
 have HBU:Hid (budT done nm=none):=hbud
 clear hbud
 have hlk1:=BK.out.lookAt hs hat hhas (gb_drew (gb_refl w0 none))
 have hlk2:=BK.out.lookAt hs hat hhas (gb_drew (gb_alloc (gb_refl w0 none) (.cells #[.int .i64 0,.int .i64 0,.int .i64 0,.int .i64 0,.map none] 183)))
 obtain ⟨c0,c1,c2,c3,c4,f0,f1,f2,f3,f4,hl0⟩:=V0.out
 obtain ⟨d0,d1,d2,d3,d4,g0,g1,g2,g3,g4,hl1⟩:=V1.out
 obtain ⟨t0,t1,tf0,tf1,htl⟩:=BK.out.two
 have hbk:bk < w.heap.size:=HB.out.two.lt
 have hbk2:bk < w.heap.size + 1 + 1:=by omega
 clear hB hat hhas
 have hlen:=(BK.out.gb (gb_drew (gb_alloc (gb_refl w0 none) (.cells #[.int .i64 0,.int .i64 0,.int .i64 0,.int .i64 0,.map none] 183))) (by simp)).own.len Tryz.underlying178 3
 rw [BK.out.sz,hk] at hlen
 have hkb:k≤64:=by rw [← hk]; exact BK.out.inv.ops
 have ko:=fun W=>opened_any (u,v') (fun _=>oneQ) W
 have W1:Hid (FivB (w0.alloc (.cells #[.int .i64 0,.int .i64 0,.int .i64 0,.int .i64 0,.map none] 183)).drew (w.heap.size + 1) (.int .i64 0) (.int .i64 0) (.int .i64 0) (.int .i64 0) (.map none)):=(V1.out.below (ba _ _)).gb (gb_drew (gb_refl _ none)) (by simp)
 go_enter Tryz.func152,Tryz.ntmps152
 go_wp2_with fail
 go_region
 all_goals
  by_cases c:64≤k
  ·rw [if_pos c] at her
   subst her
   have hq:decide ((64:Int)≤(k:Int))=true:=decide_eq_true (by omega)
   go_wp2_with fail
   exact bodyPost_ret (v:=.tuple #[zp,.int .i64 5]) (by simp [results,Tryz.results152,go_sem,d0,d1,d2,d3,d4,hl1]) rfl ⟨(bal (bs5 B0 (by omega) _ _ _ _ _) _).drew,.inl ⟨by decide,rfl⟩⟩
  ·rw [if_neg c] at her
   subst her
   have hq:decide ((64:Int)≤(k:Int))=false:=decide_eq_false (by omega)
   go_wp2_with fail
   refine (ko _).mono ?_
   rintro e1 w1 ⟨bp,rfl,hb1,hbp,hP1⟩
   obtain ⟨x0,x1,x2,x3,x4,y0,y1,y2,y3,y4,hx⟩:=W1.out.below hb1
   have hbp':w.heap.size + 1 + 1 < bp:=by simp [hz0] at hbp; omega
   go_wp2_with fail
   exact bodyPost_ret (v:=.tuple #[pv (u,v') oneQ bp,.int .i64 0]) (by simp [results,Tryz.results152,go_sem,x0,x1,x2,x3,x4]) rfl ⟨bs5 (bt (bal B0 _).drew hb1) (by omega) _ _ _ _ _,.inr ⟨rfl,bp,rfl,by omega,hP1.gb (gb_set (gb_set (gb_set (gb_set (gb_set (gb_refl _ _) _ _) _ _) _ _) _ _) _ _) (by simp; omega)⟩⟩
set_option maxHeartbeats 800000 in
set_option maxRecDepth 100000 in
theorem after21_any (N:Nat→Prop) (bk bm n:Nat) (v:Value) (D:DataW Value) (done:List En) (nm:ByteArray) (p u v':Int) (w:World) (hB:BookM w N bk bm n v D done) (hs:nm.size≤4294967296) (b:Rq) (hbud:budT done nm=some b) (m:Rq) (ht:Top (fun p=>(prtP done nm p).1) (fun p=>p∈prs done nm) m) (hob:OkR b) (hls:OkR (u,v')) (er:Int) (her:onaT b (allP done nm).1 (u,v') m=er) :
  Calls Tryz.prog 152 #[.pointer (some ⟨bk,0,none⟩),ev (2,nm,p,u,v')] w (Aft21 w N bk bm done nm b (mulT (allP done nm).1 (u,v')).1 er):=by
 have HB:Hid (BookM w N bk bm n v D done):=hB
 obtain ⟨w0,hw0⟩:∃ w0,(w.alloc (.cells #[.int .i64 2,.string nm,.int .i64 p,.int .i64 u,.int .i64 v'] 87)).alloc (.cells #[.int .i64 0,.int .i64 0,.int .i64 0,.int .i64 0,.map none] 183)=w0:=⟨_,rfl⟩
 have hz0:w0.heap.size=w.heap.size + 1 + 1:=by rw [← hw0]; simp
 have B0:Below w.heap.size w w0:=by rw [← hw0]; exact bal (ba _ _) _
 have V0:Hid (FivB w0 w.heap.size (.int .i64 2) (.string nm) (.int .i64 p) (.int .i64 u) (.int .i64 v')):=by rw [← hw0]; exact (FivB.new _ _ _ _ _ _ 87 _ rfl).below (ba _ _)
 have V1:Hid (FivB w0 (w.heap.size + 1) (.int .i64 0) (.int .i64 0) (.int .i64 0) (.int .i64 0) (.map none)):=by rw [← hw0]; exact FivB.new _ _ _ _ _ _ 183 _ (by simp)
 have BK:Hid (BookM w0 N bk bm n v D done):=hB.keep B0
 obtain ⟨bp,np,Dp,hat,hPp,hnp,hszp,hlop,hbpk,hbpm⟩:=(hB.el nm b hbud).ex
 have hhas:Maps.has D (kN nm)=true:=(hB.is nm).2 ⟨b,hbud⟩
 have HX:Hid (np≤done.length∧Maps.size Dp=(parT done nm).length∧N bp∧bp≠bk∧bp≠bm):=⟨hnp,hszp,hlop,hbpk,hbpm⟩
 have HPp:Hid (Pts w bp np Dp (fun p=>p∈prs done nm) (fun p=>(prtP done nm p).1)):=hPp
 have HBU:Hid (budT done nm=some b):=hbud
 clear hnp hszp hlop hbpk hbpm hPp hbud
 obtain ⟨al,hal⟩:∃ al,(allP done nm).1=al:=⟨_,rfl⟩
 have HAL:Hid ((allP done nm).1=al):=hal
 rw [hal] at hat
 clear hal
 have hlk1:=BK.out.lookAt hs hat hhas (gb_drew (gb_refl w0 none))
 have hlk2:=BK.out.lookAt hs hat hhas (gb_drew (gb_alloc (gb_refl w0 none) (.cells #[.int .i64 0,.int .i64 0,.int .i64 0,.int .i64 0,.map none] 183)))
 obtain ⟨c0,c1,c2,c3,c4,f0,f1,f2,f3,f4,hl0⟩:=V0.out
 obtain ⟨d0,d1,d2,d3,d4,g0,g1,g2,g3,g4,hl1⟩:=V1.out
 obtain ⟨t0,t1,tf0,tf1,htl⟩:=BK.out.two
 have hbk:bk < w.heap.size:=HB.out.two.lt
 have hbk2:bk < w.heap.size + 1 + 1:=by omega
 clear hB hat hhas
 rw [HAL.out] at her
 rw [HAL.out]
 have hal1:OkR al:=HAL.out▸(HB.out.inv.all nm).2
 have hln:=HB.out.inv.len
 have ko:=fun W (hW:Pts W bp np Dp (fun p=>p∈prs done nm) (fun p=>(prtP done nm p).1))=>onAll_any b al (u,v') bp np Dp _ _ W hW (by have:=HX.out.1; omega) m ht hal1 hob hls er her
 have P1:Hid (Pts (w0.alloc (.cells #[.int .i64 b.1,.int .i64 b.2,.int .i64 al.1,.int .i64 al.2,.map (some bp)] 183)).drew bp np Dp (fun p=>p∈prs done nm) (fun p=>(prtP done nm p).1)):=(HPp.out.keep (bal B0 _)).gb (gb_drew (gb_refl _ none)) (by simp)
 have W1:Hid (FivB (w0.alloc (.cells #[.int .i64 b.1,.int .i64 b.2,.int .i64 al.1,.int .i64 al.2,.map (some bp)] 183)).drew (w.heap.size + 1) (.int .i64 0) (.int .i64 0) (.int .i64 0) (.int .i64 0) (.map none)):=(V1.out.below (ba _ _)).gb (gb_drew (gb_refl _ none)) (by simp)
 have hbpl:bp < w.heap.size:=HPp.out.own.lt
 clear her hln ht
 go_enter Tryz.func152,Tryz.ntmps152
 go_wp2_with fail
 go_region
 all_goals
  by_cases her:er=0
  ·subst her
   simp only [↓reduceIte] at ko
   go_wp2_with fail
   refine (ko _ P1.out).mono ?_
   rintro e1 w1 ⟨rfl,hb1⟩
   obtain ⟨x0,x1,x2,x3,x4,y0,y1,y2,y3,y4,hx⟩:=W1.out.below hb1
   go_wp2_with fail
   exact bodyPost_ret (v:=.tuple #[pv b (mulT al (u,v')).1 bp,.int .i64 0]) (by simp [results,Tryz.results152,go_sem,x0,x1,x2,x3,x4]) rfl ⟨bs5 (bt (bal B0 _).drew hb1) (by omega) _ _ _ _ _,.inr ⟨rfl,bp,np,Dp,rfl,(P1.out.keep hb1).gb (gb_set (gb_set (gb_set (gb_set (gb_set (gb_refl _ _) _ _) _ _) _ _) _ _) _ _) (by simp; omega),HX.out⟩⟩
  ·simp only [her,↓reduceIte] at ko
   go_wp2_with fail
   refine (ko _ P1.out).mono ?_
   rintro e1 w1 ⟨rfl,hb1⟩
   obtain ⟨x0,x1,x2,x3,x4,y0,y1,y2,y3,y4,hx⟩:=W1.out.below hb1
   go_wp2_with fail
   exact bodyPost_ret (v:=.tuple #[zp,.int .i64 er]) (by simp [results,Tryz.results152,go_sem,x0,x1,x2,x3,x4]) rfl ⟨bs5 (bt (bal B0 _).drew hb1) (by omega) _ _ _ _ _,.inl ⟨her,rfl⟩⟩
set_option maxHeartbeats 1000000 in
set_option maxRecDepth 100000 in
theorem onPartOut_any (bud al ls:Rq) (bm:Nat) (part:Int) (w:World) (hp:part < 0∨1073741824 < part) :
  Calls Tryz.prog 189 #[pv bud al bm,.int .i64 part,rvq ls] w fun x w'=>x=.returned (.tuple #[zp,.int .i64 3])∧Below w.heap.size w w':=by
 by_cases h:part < 0
 ·clear hp
  go_enter Tryz.func189,Tryz.ntmps189
  go_wp2_with fail
  exact bodyPost_ret (v:=.tuple #[zp,.int .i64 3]) (by simp [results,Tryz.results189,go_sem]) rfl ⟨rfl,bal (bal (ba _ _) _) _⟩
 ·have h2:1073741824 < part:=by omega
  clear hp
  go_enter Tryz.func189,Tryz.ntmps189
  go_wp2_with fail
  exact bodyPost_ret (v:=.tuple #[zp,.int .i64 3]) (by simp [results,Tryz.results189,go_sem]) rfl ⟨rfl,bal (bal (ba _ _) _) _⟩
set_option maxHeartbeats 800000 in
set_option maxRecDepth 100000 in
theorem after31_any (N:Nat→Prop) (bk bm n:Nat) (v:Value) (D:DataW Value) (done:List En) (nm:ByteArray) (p u v':Int) (w:World) (hB:BookM w N bk bm n v D done) (hs:nm.size≤4294967296) (b:Rq) (hbud:budT done nm=some b) (fp:Rq) (hfp:(prtP done nm p).1=fp) (m:Rq) (ht:(mulT fp (u,v')).2=0→Top (fun y=>if y=p then (mulT fp (u,v')).1 else (prtP done nm y).1) (fun y=>y∈prs done nm∨y=p) m) (hob:OkR b) (hls:OkR (u,v')) (er:Int) (her:onpT b (allP done nm).1 fp (u,v') m (decide (p∈prs done nm)) (parT done nm).length p=er) (hpI:-9223372036854775808≤p∧p≤9223372036854775807) :
  Calls Tryz.prog 152 #[.pointer (some ⟨bk,0,none⟩),ev (3,nm,p,u,v')] w (Aft31 w done nm b (allP done nm).1 (mulT fp (u,v')).1 p er):=by
 have HB:Hid (BookM w N bk bm n v D done):=hB
 obtain ⟨w0,hw0⟩:∃ w0,(w.alloc (.cells #[.int .i64 3,.string nm,.int .i64 p,.int .i64 u,.int .i64 v'] 87)).alloc (.cells #[.int .i64 0,.int .i64 0,.int .i64 0,.int .i64 0,.map none] 183)=w0:=⟨_,rfl⟩
 have hz0:w0.heap.size=w.heap.size + 1 + 1:=by rw [← hw0]; simp
 have B0:Below w.heap.size w w0:=by rw [← hw0]; exact bal (ba _ _) _
 have V0:Hid (FivB w0 w.heap.size (.int .i64 3) (.string nm) (.int .i64 p) (.int .i64 u) (.int .i64 v')):=by rw [← hw0]; exact (FivB.new _ _ _ _ _ _ 87 _ rfl).below (ba _ _)
 have V1:Hid (FivB w0 (w.heap.size + 1) (.int .i64 0) (.int .i64 0) (.int .i64 0) (.int .i64 0) (.map none)):=by rw [← hw0]; exact FivB.new _ _ _ _ _ _ 183 _ (by simp)
 have BK:Hid (BookM w0 N bk bm n v D done):=hB.keep B0
 obtain ⟨bp,np,Dp,hat,hPp,hnp,hszp,hlop,hbpk,hbpm⟩:=(hB.el nm b hbud).ex
 have hhas:Maps.has D (kN nm)=true:=(hB.is nm).2 ⟨b,hbud⟩
 have HX:Hid (np≤done.length∧Maps.size Dp=(parT done nm).length∧N bp∧bp≠bk∧bp≠bm):=⟨hnp,hszp,hlop,hbpk,hbpm⟩
 have HPp:Hid (Pts w bp np Dp (fun p=>p∈prs done nm) (fun p=>(prtP done nm p).1)):=hPp
 have HBU:Hid (budT done nm=some b):=hbud
 clear hnp hszp hlop hbpk hbpm hPp hbud
 obtain ⟨al,hal⟩:∃ al,(allP done nm).1=al:=⟨_,rfl⟩
 have HAL:Hid ((allP done nm).1=al):=hal
 rw [hal] at hat
 clear hal
 have hlk1:=BK.out.lookAt hs hat hhas (gb_drew (gb_refl w0 none))
 have hlk2:=BK.out.lookAt hs hat hhas (gb_drew (gb_alloc (gb_refl w0 none) (.cells #[.int .i64 0,.int .i64 0,.int .i64 0,.int .i64 0,.map none] 183)))
 obtain ⟨c0,c1,c2,c3,c4,f0,f1,f2,f3,f4,hl0⟩:=V0.out
 obtain ⟨d0,d1,d2,d3,d4,g0,g1,g2,g3,g4,hl1⟩:=V1.out
 obtain ⟨t0,t1,tf0,tf1,htl⟩:=BK.out.two
 have hbk:bk < w.heap.size:=HB.out.two.lt
 have hbk2:bk < w.heap.size + 1 + 1:=by omega
 clear hB hat hhas
 rw [HAL.out] at her
 rw [HAL.out]
 have hal1:OkR al:=HAL.out▸(HB.out.inv.all nm).2
 have hln:=HB.out.inv.len
 have hof:OkR fp:=hfp▸(HB.out.inv.prt nm p).2
 have hnpb:np + 1≤1048576:=by have:=HX.out.1; omega
 have ko:∀ W,Pts W bp np Dp (fun p=>p∈prs done nm) (fun p=>(prtP done nm p).1)→Calls Tryz.prog 189 #[pv b al bp,.int .i64 p,rvq (u,v')] W (PartP W b al np (parT done nm).length (decide (p∈prs done nm)) (fun p=>p∈prs done nm) (fun p=>(prtP done nm p).1) p (mulT fp (u,v')).1 er):=fun W hW=>by
  by_cases hr:0≤p∧p≤1073741824
  ·cases hth:decide (p∈prs done nm) with
   | true =>
    rw [hth] at her
    exact onPartOld_any b al (u,v') fp bp np _ Dp _ _ p W hW hnpb HX.out.2.1 hr (of_decide_eq_true hth) hfp hof m ht hal1 hob hls er her
   | false =>
    rw [hth] at her
    have hno:¬ p∈prs done nm:=of_decide_eq_false hth
    exact onPartNew_any b al (u,v') fp bp np _ Dp _ _ p W hW hnpb HX.out.2.1 hr hno (by rw [← hfp,prt_none hno]) hof m ht hal1 hob hls er her
  ·have he3:3=er:=by rw [← her,onpT,if_pos (by omega)]
   subst he3
   refine (onPartOut_any b al (u,v') bp p W (by omega)).mono ?_
   rintro x w' ⟨h1,h2⟩
   exact ⟨h2,.inl ⟨by decide,h1⟩⟩
 have P1:Hid (Pts (w0.alloc (.cells #[.int .i64 b.1,.int .i64 b.2,.int .i64 al.1,.int .i64 al.2,.map (some bp)] 183)).drew bp np Dp (fun p=>p∈prs done nm) (fun p=>(prtP done nm p).1)):=(HPp.out.keep (bal B0 _)).gb (gb_drew (gb_refl _ none)) (by simp)
 have W1:Hid (FivB (w0.alloc (.cells #[.int .i64 b.1,.int .i64 b.2,.int .i64 al.1,.int .i64 al.2,.map (some bp)] 183)).drew (w.heap.size + 1) (.int .i64 0) (.int .i64 0) (.int .i64 0) (.int .i64 0) (.map none)):=(V1.out.below (ba _ _)).gb (gb_drew (gb_refl _ none)) (by simp)
 have hbpl:bp < w.heap.size:=HPp.out.own.lt
 clear her hln ht hfp
 go_enter Tryz.func152,Tryz.ntmps152
 go_wp2_with fail
 go_region
 all_goals
  go_wp2_with fail
  refine (ko _ P1.out).mono ?_
  rintro e1 w1 ⟨hb1,⟨hne,rfl⟩ | ⟨rfl,b2,D2,rfl,hlo2,hP2,hsz2⟩⟩
  ·obtain ⟨x0,x1,x2,x3,x4,y0,y1,y2,y3,y4,hx⟩:=W1.out.below hb1
   go_wp2_with fail
   exact bodyPost_ret (v:=.tuple #[zp,.int .i64 er]) (by simp [results,Tryz.results152,go_sem,x0,x1,x2,x3,x4]) rfl ⟨bs5 (bt (bal B0 _).drew hb1) (by omega) _ _ _ _ _,.inl ⟨hne,rfl⟩⟩
  ·obtain ⟨x0,x1,x2,x3,x4,y0,y1,y2,y3,y4,hx⟩:=W1.out.below hb1
   have hlo3:w.heap.size + 1 + 1 < b2:=by simp [hz0] at hlo2; omega
   go_wp2_with fail
   exact bodyPost_ret (v:=.tuple #[pv b al b2,.int .i64 0]) (by simp [results,Tryz.results152,go_sem,x0,x1,x2,x3,x4]) rfl ⟨bs5 (bt (bal B0 _).drew hb1) (by omega) _ _ _ _ _,.inr ⟨rfl,b2,np,D2,rfl,hP2.gb (gb_set (gb_set (gb_set (gb_set (gb_set (gb_refl _ _) _ _) _ _) _ _) _ _) _ _) (by simp; omega),HX.out.1,hsz2,by omega⟩⟩
theorem Pts.congr {w:World} {b n:Nat} {D:DataW Value} {P Q:Int→Prop} {f g:Int→Rq} (h:Pts w b n D P f) (hP:∀ z,P z↔Q z) (hf:∀ z,P z→f z=g z):Pts w b n D Q g :=
 ⟨h.own,fun z=>(h.is z).trans (hP z),fun z hz=>by rw [h.el z ((hP z).2 hz),hf z ((hP z).2 hz)],fun z hz=>h.rng z ((hP z).2 hz)⟩
theorem bad_nrm (e:En):badT (nrm e)=badT e:=by unfold badT; rw [nrm_1,nrm_n,nrm_l]
theorem after_any (N:Nat→Prop) (bk bm n:Nat) (v:Value) (D:DataW Value) (done:List En) (e:En) (w:World) (hB:BookM w N bk bm n v D done) (hs:e.2.1.size≤4294967296) (hN:∀ k,w.heap.size≤k→N k) (hbad:badT e=0) (hl:done.length < 4096) (hpI:-9223372036854775808≤e.2.2.1∧e.2.2.1≤9223372036854775807) (er:Int) (her:doT done (nrm e)=er) :
  Calls Tryz.prog 152 #[.pointer (some ⟨bk,0,none⟩),ev e] w (AfterP w N bk bm done (nrm e) er):=by
 have hbad':badT (nrm e)=0:=by rw [bad_nrm]; exact hbad
 obtain ⟨b1,b2,b3,b4⟩:=bad_ok hbad
 have hinv:=hB.inv
 have hbmlt:=hB.own.lt
 have hbklt:=hB.two.lt
 obtain ⟨d,nm,p,u,v'⟩:=e
 simp only at hs b1 b2 b3 b4 hpI
 have hd:d=1∨d=2∨d=3:=by omega
 rcases hd with rfl | rfl | rfl
 ·rw [show nrm (1,nm,p,u,v')=(1,nm,0,u,v') from by simp [nrm]] at *
  rw [doT_base hbad' hl] at her
  cases hbud:budT done nm with
  | some b =>
   simp only [hbud,↓reduceIte] at her
   subst her
   refine (after11_any N bk bm n v D done nm p u v' w hB hs b hbud).mono ?_
   rintro x w' ⟨h1,h2⟩
   exact ⟨h1,.inl ⟨by decide,h2⟩⟩
  | none =>
   simp only [hbud,↓reduceIte] at her
   refine (after10_any N bk bm n v D done nm p u v' w hB hs hbud _ rfl er her).mono ?_
   rintro x w' ⟨h1,h2 | ⟨h2,bp,h3,h4,h5⟩⟩
   ·exact ⟨h1,.inl h2⟩
   ·obtain ⟨k1,k2⟩:=none_of hinv hbud
    have k3:prs (done ++ [(1,nm,0,u,v')]) nm=[]:=by rw [prs_other (by simp)]; exact k1
    have k4:allP (done ++ [(1,nm,0,u,v')]) nm=(oneQ,0):=by rw [all_other (by simp)]; exact k2
    refine ⟨h1,.inr ⟨h2,(u,v'),bp,0,_,by rw [k4]; exact h3,?_,h5.congr (fun z=>by simp [k3]) (fun _ h=>h.elim),by omega,?_,hN _ (by omega),by omega,by omega⟩⟩
    ·rw [bud_snoc,hbud]; simp
    ·simp [parT,k3,onceT,Maps.size]
 ·rw [show nrm (2,nm,p,u,v')=(2,nm,0,u,v') from by simp [nrm]] at *
  cases hbud:budT done nm with
  | none =>
   rw [doT_base hbad' hl] at her
   simp only [hbud] at her
   rw [if_neg (by decide)] at her
   subst her
   refine (after20_any N bk bm n v D done nm p u v' w hB hs hbud).mono ?_
   rintro x w' ⟨h1,h2⟩
   exact ⟨h1,.inl ⟨by decide,h2⟩⟩
  | some b =>
   rw [doT_spend hinv hbad' hl rfl hbud] at her
   have hob:OkR b:=by
    unfold budT at hbud
    simp only [Option.map_eq_some_iff] at hbud
    obtain ⟨x,hx,rfl⟩:=hbud
    exact (bad_ok (hinv.bad x (List.mem_of_find?_eq_some hx)).1).2.2.2
   refine (after21_any N bk bm n v D done nm p u v' w hB hs b hbud _ (hinv.top nm).2 hob b4 er her).mono ?_
   rintro x w' ⟨h1,h2 | ⟨h2,bp,np,Dp,h3,h4,h5,h6,h7⟩⟩
   ·exact ⟨h1,.inl h2⟩
   ·have k3:prs (done ++ [(2,nm,0,u,v')]) nm=prs done nm:=prs_other (by simp)
    have k5:prtP (done ++ [(2,nm,0,u,v')]) nm=prtP done nm:=funext fun y=>prt_other (by simp)
    have k4:allP (done ++ [(2,nm,0,u,v')]) nm=mulT (allP done nm).1 (u,v'):=by
     rcases spent_all (e:=(2,nm,0,u,v')) hinv rfl b4 with ⟨j1,_⟩ | ⟨_,_,j3,_⟩
     ·exfalso
      rw [h2] at her
      unfold onaT at her
      simp only at j1
      rw [j1] at her
      simp at her
     ·exact j3
    refine ⟨h1,.inr ⟨h2,b,bp,np,Dp,by simp only [k4]; exact h3,?_,?_,by omega,?_,h7⟩⟩
    ·rw [bud_snoc,hbud]; simp
    ·simp only [k3,k5]; exact h4
    ·simp only [parT,k3]; exact h6
 ·rw [show nrm (3,nm,p,u,v')=(3,nm,p,u,v') from by simp [nrm]] at *
  cases hbud:budT done nm with
  | none =>
   rw [doT_base hbad' hl] at her
   simp only [hbud] at her
   rw [if_neg (by decide)] at her
   subst her
   refine (after30_any N bk bm n v D done nm p u v' w hB hs hbud).mono ?_
   rintro x w' ⟨h1,h2⟩
   exact ⟨h1,.inl ⟨by decide,h2⟩⟩
  | some b =>
   have hob:OkR b:=by
    unfold budT at hbud
    simp only [Option.map_eq_some_iff] at hbud
    obtain ⟨x,hx,rfl⟩:=hbud
    exact (bad_ok (hinv.bad x (List.mem_of_find?_eq_some hx)).1).2.2.2
   have k3:∀ z,z∈prs (done ++ [(3,nm,p,u,v')]) nm↔(z∈prs done nm∨z=p):=fun z=>by rw [prs_snoc,if_pos ⟨rfl,rfl⟩]; simp
   have k5:(mulT (prtP done nm p).1 (u,v')).2=0→∀ z,(prtP (done ++ [(3,nm,p,u,v')]) nm z).1=if z=p then (mulT (prtP done nm p).1 (u,v')).1 else (prtP done nm z).1:=fun h0 z=>by
    by_cases hz:z=p
    ·subst hz
     have:=prt_this (e:=(3,nm,z,u,v')) hinv rfl
     simp only at this
     rw [this,if_pos h0]; simp
    ·rw [if_neg hz,prt_other (fun c=>hz c.2.2.symm)]
   obtain ⟨m,hm⟩:∃ m,(mulT (prtP done nm p).1 (u,v')).2=0→Top (fun y=>(prtP (done ++ [(3,nm,p,u,v')]) nm y).1) (fun y=>y∈prs (done ++ [(3,nm,p,u,v')]) nm) m:=by
    rcases spent_part (e:=(3,nm,p,u,v')) hinv rfl b4 with ⟨j1,_⟩ | ⟨_,_,_,_,m,j5⟩
    ·simp only at j1
     exact ⟨oneQ,fun h=>by rw [j1] at h; simp at h⟩
    ·exact ⟨m,fun _=>j5⟩
   rw [doT_part hinv hbad' hl rfl hbud m hm] at her
   refine (after31_any N bk bm n v D done nm p u v' w hB hs b hbud _ rfl m (fun h0=>(hm h0).congr k3 (fun z _=>k5 h0 z)) hob b4 er her hpI).mono ?_
   rintro x w' ⟨h1,h2 | ⟨h2,bp,np,Dp,h3,h4,h5,h6,h7⟩⟩
   ·exact ⟨h1,.inl h2⟩
   ·have h0:(mulT (prtP done nm p).1 (u,v')).2=0:=by
     rcases mul_cases (hinv.prt nm p).2 b4 with ⟨j1,_⟩ | j1
     ·exact j1
     ·exfalso
      rw [h2] at her
      unfold onpT at her
      simp only [j1] at her
      split at her
      ·omega
      ·split at her
       ·omega
       ·simp at her
    have k4:allP (done ++ [(3,nm,p,u,v')]) nm=allP done nm:=all_other (by simp)
    refine ⟨h1,.inr ⟨h2,b,bp,np + 1,Dp,by simp only [k4]; exact h3,?_,h4.congr (fun z=>(k3 z).symm) (fun z _=>(k5 h0 z).symm),by omega,?_,hN _ (by omega),by omega,by omega⟩⟩
    ·rw [bud_snoc,hbud]; simp
    ·simp only
     rw [h6,par_snoc]
     by_cases c:p∈prs done nm
     ·have c':p∈parT done nm:=(par_mem _ _ _).2 c
      simp [c,c']
     ·have c':p ∉ parT done nm:=fun k=>c ((par_mem _ _ _).1 k)
      simp [c,c']
structure Keeps (w w':World) (N:Nat→Prop):Prop where
 os:w'.os=w.os
 tape:w'.tape=w.tape
 output:w'.output=w.output
 size:w.heap.size≤w'.heap.size
 block:∀ k,k < w.heap.size→¬ N k→w'.heap[k]? = w.heap[k]?
theorem Keeps.trans {a b c:World} {N:Nat→Prop} (h:Keeps a b N) (k:Keeps b c N):Keeps a c N :=
 ⟨k.os.trans h.os,k.tape.trans h.tape,k.output.trans h.output,Nat.le_trans h.size k.size,fun i hi hr=>(k.block i (Nat.lt_of_lt_of_le hi h.size) hr).trans (h.block i hi hr)⟩
theorem keeps_below {a b:World} {N:Nat→Prop} (h:Below a.heap.size a b):Keeps a b N:=⟨h.os,h.tape,h.output,h.size,fun k hk _=>h.block k hk⟩
theorem keeps_gb {a b:World} {N:Nat→Prop} {r:Option Nat} (h:a.grownBy b r) (hr:∀ k,r=some k→N k∨a.heap.size≤k):Keeps a b N:=⟨h.os,h.tape,h.output,h.size,fun k hk hn=>h.block k hk (fun e=>by rcases hr k e.symm with h | h; exact hn h; omega)⟩
theorem keeps_after {a b c:World} {N:Nat→Prop} {r:Option Nat} (h:Keeps a b N) (k:b.grownBy c r) (hr:∀ k,r=some k→N k∨a.heap.size≤k):Keeps a c N :=
 ⟨k.os.trans h.os,k.tape.trans h.tape,k.output.trans h.output,Nat.le_trans h.size k.size,fun i hi hn=>(k.block i (Nat.lt_of_lt_of_le hi h.size) (fun e=>by rcases hr i e.symm with h | h; exact hn h; omega)).trans (h.block i hi hn)⟩
def DoP (w:World) (N:Nat→Prop) (bk bm:Nat) (done:List En) (e:En):Ending→World→Prop:=fun x w' =>
 x=.returned (.int .i64 (doT done (nrm e)))∧Keeps w w' N∧∃ n v D,BookM w' N bk bm n v D (stepD done e)
theorem info33:(Tryz.prog.info? 87).map (fun i=>(i.zero,i.size,i.bytes))=some (some (.agg #[.int .i64 0,.string ⟨#[]⟩,.int .i64 0,.int .i64 0,.int .i64 0]),5,48):=by kernel_rfl
theorem BookM.slice {w:World} {N:Nat→Prop} {bk bm n:Nat} {v:Value} {D:DataW Value} {done:List En} (h:BookM w N bk bm n v D done):∃ a c,v=.slice a done.length c:=by
 rcases h.row.2 with ⟨hv,h0⟩ | ⟨g,cap,cur,hv,_⟩
 ·exact ⟨none,0,by rw [hv,h0]⟩
 ·exact ⟨_,_,hv⟩
set_option maxHeartbeats 1000000 in
set_option maxRecDepth 100000 in
theorem doBad_any (N:Nat→Prop) (bk bm n:Nat) (v:Value) (D:DataW Value) (done:List En) (e:En) (w:World) (hB:BookM w N bk bm n v D done) (hs:e.2.1.size≤9223372036854775807) (hb:badT e≠0∨4096≤done.length) :
  Calls Tryz.prog 92 #[.pointer (some ⟨bk,0,none⟩),ev e] w fun x w'=>x=.returned (.int .i64 (doT done (nrm e)))∧Below w.heap.size w w':=by
 obtain ⟨er,her⟩:∃ er,doT done (nrm e)=er:=⟨_,rfl⟩
 rw [her]
 obtain ⟨eb,heb⟩:∃ eb,badT e=eb:=⟨_,rfl⟩
 have kw:=fun W=>wrong_any e (by omega) W eb heb
 have hbk:=hB.two.lt
 obtain ⟨va,vc,rfl⟩:=hB.slice
 unfold doT at her
 rw [bad_nrm,heb] at her
 by_cases h0:eb=0
 ·subst h0
  have hl:4096≤done.length:=by rcases hb with h | h; exact absurd heb h; exact h
  rw [if_neg (by simp),if_pos hl] at her
  subst her
  have hq:decide ((4096:Int)≤(done.length:Int))=true:=decide_eq_true (by omega)
  have T0:Hid (TwoB w bk (.map (some bm)) (.slice va done.length vc)):=hB.two
  clear hb hl heb hB
  obtain ⟨d,nm,p,u,v'⟩:=e
  go_enter Tryz.func92,Tryz.ntmps92
  go_wp2_with fail
  refine (kw _).mono ?_
  rintro e1 w1 ⟨rfl,hb1⟩
  obtain ⟨t0,t1,tf0,tf1,htl⟩:=(T0.out.below (ba _ _)).below hb1
  go_wp2_with fail
  go_ret
  exact ⟨rfl,bt (ba _ _) hb1⟩
 ·rw [if_pos h0] at her
  subst her
  clear hb heb hB
  obtain ⟨d,nm,p,u,v'⟩:=e
  go_enter Tryz.func92,Tryz.ntmps92
  go_wp2_with fail
  refine (kw _).mono ?_
  rintro e1 w1 ⟨rfl,hb1⟩
  go_wp2_with fail
  go_ret
  exact ⟨rfl,bt (ba _ _) hb1⟩
set_option maxHeartbeats 1000000 in
set_option maxRecDepth 100000 in
theorem doNo_any (N:Nat→Prop) (bk bm n:Nat) (v:Value) (D:DataW Value) (done:List En) (e:En) (w:World) (hB:BookM w N bk bm n v D done) (hs:e.2.1.size≤4294967296) (hN:∀ k,w.heap.size≤k→N k) (hbad:badT e=0) (hl:done.length < 4096) (hpI:-9223372036854775808≤e.2.2.1∧e.2.2.1≤9223372036854775807) (er:Int) (her:doT done (nrm e)=er) (h0:er≠0) :
  Calls Tryz.prog 92 #[.pointer (some ⟨bk,0,none⟩),ev e] w fun x w'=>x=.returned (.int .i64 er)∧Below w.heap.size w w':=by
 have kw:=fun W=>wrong_any e (by omega) W 0 hbad
 have ka:=fun W (hW:BookM W N bk bm n v D done) (hNW:∀ k,W.heap.size≤k→N k)=>after_any N bk bm n v D done e W hW hs hNW hbad hl hpI er her
 have HB:Hid (BookM w N bk bm n v D done):=hB
 have hbk:=hB.two.lt
 obtain ⟨va,vc,rfl⟩:=hB.slice
 have hq:decide ((4096:Int)≤(done.length:Int))=false:=decide_eq_false (by omega)
 obtain ⟨d,nm,p,u,v'⟩:=e
 have V0:Hid (FivB (w.alloc (.cells #[.int .i64 d,.string nm,.int .i64 p,.int .i64 u,.int .i64 v'] 87)) w.heap.size (.int .i64 d) (.string nm) (.int .i64 p) (.int .i64 u) (.int .i64 v')):=FivB.new _ _ _ _ _ _ 87 _ rfl
 clear hbad her hB
 go_enter Tryz.func92,Tryz.ntmps92
 go_wp2_with fail
 refine (kw _).mono ?_
 rintro e1 w1 ⟨rfl,hb1⟩
 have B1:=bt (ba _ _) hb1
 have BK1:=HB.out.keep B1
 obtain ⟨t0,t1,tf0,tf1,htl⟩:=BK1.two
 obtain ⟨c0,c1,c2,c3,c4,f0,f1,f2,f3,f4,hl0⟩:=V0.out.below hb1
 go_wp2_with fail
 refine (ka _ BK1 (fun k hk=>hN k (Nat.le_trans B1.size hk))).mono ?_
 rintro e2 w2 ⟨hb2,⟨_,rfl⟩ | ⟨hz,_⟩⟩
 ·have hq2:(er != 0)=true:=by simpa using h0
  go_wp2_with fail
  go_ret
  exact ⟨rfl,bal (bt B1 hb2) _⟩
 ·exact absurd hz h0
end Go.Proofs.YtlndlpjadajelaaGreat.K.P
