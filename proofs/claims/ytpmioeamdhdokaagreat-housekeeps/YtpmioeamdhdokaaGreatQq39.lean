import Derived.Test.YtpmioeamdhdokaaGreatQq38
namespace Go.Proofs.YtpmioeamdhdokaaGreat
open Go.RowKit Go.Shelf Go.Proofs.YtpmioeamdhdokaaGreat.Ds
def Owb (w:World) (b:Nat) (t:TypeId) (cs:List Value):Prop:=w.heap[b]? = some (.cells cs.toArray t (0,0))
theorem Owb.lt {w:World} {b:Nat} {t:TypeId} {cs:List Value} (h:Owb w b t cs):b < w.heap.size:=(Array.getElem?_eq_some_iff.1 h).1
theorem Owb.new (w:World) (cs:List Value) (t:TypeId):Owb (w.alloc (.cells cs.toArray t)) w.heap.size t cs:=Go.heap_alloc_last w _
theorem Owb.alloc {w:World} {b:Nat} {t:TypeId} {cs:List Value} (h:Owb w b t cs) (ob:Obj):Owb (w.alloc ob) b t cs:=(Below.heap_alloc _ _ _ h.lt).trans h
theorem Owb.set {w:World} {b:Nat} {t:TypeId} {cs:List Value} (h:Owb w b t cs) (ds:List Value):Owb (w.setRow b ds.toArray) b t ds:=by
 unfold Owb World.setRow at *
 simp [Array.getElem?_modify,h]
theorem Owb.oth {w:World} {b b':Nat} {t:TypeId} {cs:List Value} (h:Owb w b t cs) (hne:b'≠b) (ds:Array Value):Owb (w.setRow b' ds) b t cs:=by
 unfold Owb World.setRow at *
 simp [Array.getElem?_modify,h,hne]
theorem below_row {A w:World} {b:Nat} (h:Below A.heap.size A w) (hb:A.heap.size≤b) (ds:Array Value):Below A.heap.size A (w.setRow b ds) :=
 ⟨h.os,h.tape,h.output,by simpa [World.setRow] using h.size,fun k hk=>by
  refine Eq.trans ?_ (h.block k hk)
  unfold World.setRow
  simp [Array.getElem?_modify,show ¬ b=k by omega]⟩
theorem Owb.bx {w:World} {b:Nat} {t:TypeId} {cs:List Value} (h:Owb w b t cs):Bx w b cs:=fun k v hk=>⟨by unfold Owb at h; simp [World.cell?,h]; simpa using hk,by unfold Owb at h; simp [World.frozen?,h],h.lt⟩
theorem infos42':(Tryz.prog.info? 42).map (fun i=>i.size)=some 6:=by kernel_rfl
set_option maxRecDepth 100000 in
set_option maxHeartbeats 8000000 in
theorem region19 {Q:Exit→Act→World→Prop} (hQp:∀ c a d v w,Q (.panic c) (Act.put a d v) w→Q (.panic c) a w) (t0 t1 t2 t3 t4 t5 t6 t8 t9 t11 t12 t13 t14 t15 t17 t18 t19 t20 t21 t22 t23 t24 t25 t26 t27 t28 t29 t30 t31 t32 t33 t34 t35 t36 t37 t38 t39 t40 t41 t42 t43 t44 t45 t46 t47 t48 t49 t50 t51 t52 t53 t54 t55 t56 t57 t58 t59 t60 t61 t62 t63 t64 t65 t66 t67 t68 t69 t70 t71 t72 t73 t74 t75 t76 t77 t78 t79 t80 t81 t82 t83 t84 t85 t86 t87 t88 t89 t90 t91 t92 t93 t94 t95 t96 t97 t98 t99 t100 t101 t102 t103 t104 t105 t106 t107 t108 t109 t110 t111 t112 t113 t114 t115 t116 t117 t118 t119 t120 t121 t122 t123 t124 t125 t126 t127 t128 t129 t130 t131 t132 t133 t134 t135 t136 t137 t138 t139 t140 t141 t142 t143 t144 t145 t146 t147 t148 t149 t150 t151 t152 t153 t154 t155 t156 t157 t158 t159 t160 t161 t162 t163 t164 t165 t166 t167 t168 t169 t170 t171 t172 t173 t174 t175 t176 t177 t178 t179 t180 t181 t182 t183 t184 t185 t186 t187 t188 t189 t190 t191 t192 t193 t194 t195 t196 t197 t198 t199 t200:Value) (A:World) (ga gs na ca ns cs i j:Nat) (hj:i + 1=j) (s:Stv) (x0 x1 x2 x3 x4 x5 l0 l1 l2 l3 l4 l5:Value) (hx1:∀ u∈[x0,x1,x2,x3,x4,x5],u.oneCell' = true) (hl1:∀ u∈[l0,l1,l2,l3,l4,l5],u.oneCell' = true) (hi:i < na) (hi1:j < ns) (hns:ns≤10000000000000)
  (hga:ga < A.heap.size) (hgs:gs < A.heap.size) (hS:A.rangeAt ga (0 + i * 18) s.cs) (hX:A.rangeAt gs (0 + i * 6) [x0,x1,x2,x3,x4,x5]) (hL:A.rangeAt gs (0 + j * 6) [l0,l1,l2,l3,l4,l5])
  (hEnd:∀ (u71 u72 u73 u74 u75 u76 u77 u78 u79 u80 u81 u82 u83:Value) (b1 b2 b3:Nat) (Wf:World),Below A.heap.size A Wf→Owb Wf b1 56 s.cs→Owb Wf b2 42 [x0,x1,x2,x3,x4,x5]→Owb Wf b3 42 [l0,l1,l2,l3,l4,l5]→A.heap.size≤b1∧A.heap.size≤b2∧A.heap.size≤b3→Q .normal { tmps:=#[t0,t1,t2,t3,t4,t5,t6,.slice (some ⟨ga,0,none⟩) na ca,t8,t9,.slice (some ⟨gs,0,none⟩) ns cs,t11,t12,t13,t14,t15,.int .i64 (i:Int),.pointer (some ⟨b1,0,none⟩),.pointer (some ⟨b2,0,none⟩),.pointer (some ⟨b3,0,none⟩),t20,t21,t22,t23,t24,t25,t26,t27,t28,t29,t30,t31,t32,t33,t34,t35,t36,t37,t38,t39,t40,t41,t42,t43,t44,t45,t46,t47,t48,t49,t50,t51,t52,t53,t54,t55,t56,t57,t58,t59,t60,t61,t62,t63,t64,t65,t66,t67,t68,t69,t70,u71,u72,u73,u74,u75,u76,u77,u78,u79,u80,u81,u82,u83,t84,t85,t86,t87,t88,t89,t90,t91,t92,t93,t94,t95,t96,t97,t98,t99,t100,t101,t102,t103,t104,t105,t106,t107,t108,t109,t110,t111,t112,t113,t114,t115,t116,t117,t118,t119,t120,t121,t122,t123,t124,t125,t126,t127,t128,t129,t130,t131,t132,t133,t134,t135,t136,t137,t138,t139,t140,t141,t142,t143,t144,t145,t146,t147,t148,t149,t150,t151,t152,t153,t154,t155,t156,t157,t158,t159,t160,t161,t162,t163,t164,t165,t166,t167,t168,t169,t170,t171,t172,t173,t174,t175,t176,t177,t178,t179,t180,t181,t182,t183,t184,t185,t186,t187,t188,t189,t190,t191,t192,t193,t194,t195,t196,t197,t198,t199,t200],defers:=[] } Wf) :
  (Code.region 19 #[{ dst := some 71, op := Op.move (Operand.tmp 7), type := 27, pos := "law.go:89", after := #[], guard := none }, { dst := some 72, op := Op.move (Operand.tmp 16), type := 3, pos := "law.go:89", after := #[], guard := none }, { dst := some 73, op := Op.indexAddr 27 (Operand.tmp 71) (Operand.tmp 72), type := 0, pos := "law.go:89", after := #[{ on := 0, ground := Ground.data }, { on := 1, ground := Ground.data }], guard := none }, { dst := some 74, op := Op.load 56 (Operand.tmp 73), type := 56, pos := "law.go:89", after := #[{ on := 2, ground := Ground.data }], guard := none }, { dst := some 75, op := Op.move (Operand.tmp 10), type := 28, pos := "law.go:89", after := #[{ on := 16, ground := Ground.gcOnly Departure.lateStores }], guard := none }, { dst := some 76, op := Op.move (Operand.tmp 16), type := 3, pos := "law.go:89", after := #[{ on := 16, ground := Ground.gcOnly Departure.lateStores }], guard := none }, { dst := some 77, op := Op.indexAddr 28 (Operand.tmp 75) (Operand.tmp 76), type := 0, pos := "law.go:89", after := #[{ on := 4, ground := Ground.data }, { on := 5, ground := Ground.data }, { on := 16, ground := Ground.gcOnly Departure.lateStores }], guard := none }, { dst := some 78, op := Op.load 42 (Operand.tmp 77), type := 42, pos := "law.go:89", after := #[{ on := 6, ground := Ground.data }, { on := 16, ground := Ground.gcOnly Departure.lateStores }], guard := none }, { dst := some 79, op := Op.move (Operand.tmp 10), type := 28, pos := "law.go:89", after := #[{ on := 17, ground := Ground.gcOnly Departure.lateStores }], guard := none }, { dst := some 80, op := Op.move (Operand.tmp 16), type := 3, pos := "law.go:89", after := #[{ on := 17, ground := Ground.gcOnly Departure.lateStores }], guard := none }, { dst := some 81, op := Op.binOp BinOp.add 3 (Operand.tmp 80) (Operand.const (Value.int IntKind.i64 1)) 3, type := 3, pos := "law.go:89", after := #[{ on := 9, ground := Ground.data }, { on := 17, ground := Ground.gcOnly Departure.lateStores }], guard := none }, { dst := some 82, op := Op.indexAddr 28 (Operand.tmp 79) (Operand.tmp 81), type := 0, pos := "law.go:89", after := #[{ on := 8, ground := Ground.data }, { on := 10, ground := Ground.data }, { on := 17, ground := Ground.gcOnly Departure.lateStores }], guard := none }, { dst := some 83, op := Op.load 42 (Operand.tmp 82), type := 42, pos := "law.go:89", after := #[{ on := 11, ground := Ground.data }, { on := 17, ground := Ground.gcOnly Departure.lateStores }], guard := none }, { dst := some 17, op := Op.alloc 56, type := 0, pos := "law.go:89", after := #[], guard := none }, { dst := some 18, op := Op.alloc 42, type := 0, pos := "law.go:89", after := #[], guard := none }, { dst := some 19, op := Op.alloc 42, type := 0, pos := "law.go:89", after := #[], guard := none }, { dst := none, op := Op.store 56 (Operand.tmp 17) (Operand.tmp 74), type := 0, pos := "law.go:89", after := #[{ on := 13, ground := Ground.data }, { on := 3, ground := Ground.data }, { on := 0, ground := Ground.phase }, { on := 1, ground := Ground.phase }, { on := 2, ground := Ground.phase }, { on := 3, ground := Ground.phase }, { on := 4, ground := Ground.textOnly Departure.lateStores }, { on := 5, ground := Ground.textOnly Departure.lateStores }, { on := 6, ground := Ground.textOnly Departure.lateStores }, { on := 7, ground := Ground.textOnly Departure.lateStores }, { on := 8, ground := Ground.textOnly Departure.lateStores }, { on := 9, ground := Ground.textOnly Departure.lateStores }, { on := 10, ground := Ground.textOnly Departure.lateStores }, { on := 11, ground := Ground.textOnly Departure.lateStores }, { on := 12, ground := Ground.textOnly Departure.lateStores }, { on := 13, ground := Ground.phase }, { on := 14, ground := Ground.phase }, { on := 15, ground := Ground.phase }], guard := none }, { dst := none, op := Op.store 42 (Operand.tmp 18) (Operand.tmp 78), type := 0, pos := "law.go:89", after := #[{ on := 14, ground := Ground.data }, { on := 7, ground := Ground.data }, { on := 16, ground := Ground.chain }, { on := 0, ground := Ground.phase }, { on := 1, ground := Ground.phase }, { on := 2, ground := Ground.phase }, { on := 3, ground := Ground.phase }, { on := 4, ground := Ground.phase }, { on := 5, ground := Ground.phase }, { on := 6, ground := Ground.phase }, { on := 7, ground := Ground.phase }, { on := 8, ground := Ground.textOnly Departure.lateStores }, { on := 9, ground := Ground.textOnly Departure.lateStores }, { on := 10, ground := Ground.textOnly Departure.lateStores }, { on := 11, ground := Ground.textOnly Departure.lateStores }, { on := 12, ground := Ground.textOnly Departure.lateStores }, { on := 13, ground := Ground.phase }, { on := 14, ground := Ground.phase }, { on := 15, ground := Ground.phase }, { on := 16, ground := Ground.phase }], guard := none }, { dst := none, op := Op.store 42 (Operand.tmp 19) (Operand.tmp 83), type := 0, pos := "law.go:89", after := #[{ on := 15, ground := Ground.data }, { on := 12, ground := Ground.data }, { on := 17, ground := Ground.chain }, { on := 0, ground := Ground.phase }, { on := 1, ground := Ground.phase }, { on := 2, ground := Ground.phase }, { on := 3, ground := Ground.phase }, { on := 4, ground := Ground.phase }, { on := 5, ground := Ground.phase }, { on := 6, ground := Ground.phase }, { on := 7, ground := Ground.phase }, { on := 8, ground := Ground.phase }, { on := 9, ground := Ground.phase }, { on := 10, ground := Ground.phase }, { on := 11, ground := Ground.phase }, { on := 12, ground := Ground.phase }, { on := 13, ground := Ground.phase }, { on := 14, ground := Ground.phase }, { on := 15, ground := Ground.phase }, { on := 16, ground := Ground.phase }, { on := 17, ground := Ground.phase }], guard := none }] true).wp Tryz.prog Q { tmps := #[t0, t1, t2, t3, t4, t5, t6, .slice (some ⟨ga, 0, none⟩) na ca, t8, t9, .slice (some ⟨gs, 0, none⟩) ns cs, t11, t12, t13, t14, t15, .int .i64 (i : Int), t17, t18, t19, t20, t21, t22, t23, t24, t25, t26, t27, t28, t29, t30, t31, t32, t33, t34, t35, t36, t37, t38, t39, t40, t41, t42, t43, t44, t45, t46, t47, t48, t49, t50, t51, t52, t53, t54, t55, t56, t57, t58, t59, t60, t61, t62, t63, t64, t65, t66, t67, t68, t69, t70, t71, t72, t73, t74, t75, t76, t77, t78, t79, t80, t81, t82, t83, t84, t85, t86, t87, t88, t89, t90, t91, t92, t93, t94, t95, t96, t97, t98, t99, t100, t101, t102, t103, t104, t105, t106, t107, t108, t109, t110, t111, t112, t113, t114, t115, t116, t117, t118, t119, t120, t121, t122, t123, t124, t125, t126, t127, t128, t129, t130, t131, t132, t133, t134, t135, t136, t137, t138, t139, t140, t141, t142, t143, t144, t145, t146, t147, t148, t149, t150, t151, t152, t153, t154, t155, t156, t157, t158, t159, t160, t161, t162, t163, t164, t165, t166, t167, t168, t169, t170, t171, t172, t173, t174, t175, t176, t177, t178, t179, t180, t181, t182, t183, t184, t185, t186, t187, t188, t189, t190, t191, t192, t193, t194, t195, t196, t197, t198, t199, t200], defers := [] } A := by
 have HEND:Hid (∀ (u71 u72 u73 u74 u75 u76 u77 u78 u79 u80 u81 u82 u83:Value) (b1 b2 b3:Nat) (Wf:World),Below A.heap.size A Wf→Owb Wf b1 56 s.cs→Owb Wf b2 42 [x0,x1,x2,x3,x4,x5]→Owb Wf b3 42 [l0,l1,l2,l3,l4,l5]→A.heap.size≤b1∧A.heap.size≤b2∧A.heap.size≤b3→Q .normal { tmps:=#[t0,t1,t2,t3,t4,t5,t6,.slice (some ⟨ga,0,none⟩) na ca,t8,t9,.slice (some ⟨gs,0,none⟩) ns cs,t11,t12,t13,t14,t15,.int .i64 (i:Int),.pointer (some ⟨b1,0,none⟩),.pointer (some ⟨b2,0,none⟩),.pointer (some ⟨b3,0,none⟩),t20,t21,t22,t23,t24,t25,t26,t27,t28,t29,t30,t31,t32,t33,t34,t35,t36,t37,t38,t39,t40,t41,t42,t43,t44,t45,t46,t47,t48,t49,t50,t51,t52,t53,t54,t55,t56,t57,t58,t59,t60,t61,t62,t63,t64,t65,t66,t67,t68,t69,t70,u71,u72,u73,u74,u75,u76,u77,u78,u79,u80,u81,u82,u83,t84,t85,t86,t87,t88,t89,t90,t91,t92,t93,t94,t95,t96,t97,t98,t99,t100,t101,t102,t103,t104,t105,t106,t107,t108,t109,t110,t111,t112,t113,t114,t115,t116,t117,t118,t119,t120,t121,t122,t123,t124,t125,t126,t127,t128,t129,t130,t131,t132,t133,t134,t135,t136,t137,t138,t139,t140,t141,t142,t143,t144,t145,t146,t147,t148,t149,t150,t151,t152,t153,t154,t155,t156,t157,t158,t159,t160,t161,t162,t163,t164,t165,t166,t167,t168,t169,t170,t171,t172,t173,t174,t175,t176,t177,t178,t179,t180,t181,t182,t183,t184,t185,t186,t187,t188,t189,t190,t191,t192,t193,t194,t195,t196,t197,t198,t199,t200],defers:=[] } Wf):=hEnd
 have HX1:Hid (∀ u∈[x0,x1,x2,x3,x4,x5],u.oneCell' = true):=hx1
 have HL1:Hid (∀ u∈[l0,l1,l2,l3,l4,l5],u.oneCell' = true):=hl1
 have HS:Hid (∀ W,Below A.heap.size A W→W.rangeAt ga (0 + i * 18) s.cs):=fun W hW q u hq=>(hW.cell (p:=⟨ga,0 + i * 18 + q,none⟩) hga).trans (hS q u hq)
 have HX:Hid (∀ W,Below A.heap.size A W→W.rangeAt gs (0 + i * 6) [x0,x1,x2,x3,x4,x5]):=fun W hW q u hq=>(hW.cell (p:=⟨gs,0 + i * 6 + q,none⟩) hgs).trans (hX q u hq)
 have HL:Hid (∀ W,Below A.heap.size A W→W.rangeAt gs (0 + j * 6) [l0,l1,l2,l3,l4,l5]):=fun W hW q u hq=>(hW.cell (p:=⟨gs,0 + j * 6 + q,none⟩) hgs).trans (hL q u hq)
 have hw1:IntKind.i64.wrap ((i:Int) + 1)=(j:Int):=by rw [IntKind.wrap_i64]; omega
 have hiI:(i:Int) < (na:Int):=by omega
 have hiJ:(i:Int) < (ns:Int):=by omega
 have hiK:(j:Int) < (ns:Int):=by omega
 have hi2:i < ns:=by omega
 have G0:Hid (Below A.heap.size A A.drew):=(Below.refl _ _).drew
 clear hEnd hS hX hL hx1 hl1 hj
 refine wp_region_any (by kernel_rfl) ?_
 change wpAny _ _ _ _ _ _ _ (World.drew _)
 obtain ⟨V0,hV0⟩:∃ V0,A.drew=V0:=⟨_,rfl⟩
 rw [hV0] at G0 ⊢
 clear hV0
 refine K.P.wpAny_of_J (S:=fun W=>Below A.heap.size A W) (J:=fun _=>true) _ _ _ _ ?_
 refine K.P.wpAnyJ_take (i:=0) (oi:={ dst := some 71, op := Op.move (Operand.tmp 7), type := 27, pos := "law.go:89", after := #[], guard := none }) (v:=.slice (some ⟨ga,0,none⟩) na ca) rfl rfl (K.P.waits_of (by kernel_rfl)) (by kernel_rfl) (by kernel_rfl) (by kernel_rfl) (fun _ _ _ h=>hQp _ _ _ _ _ h) (Or.inl ⟨by rfl,fun W hS=>?_⟩) G0.out ?_
 ·go_simp
 simp only [Act.put,List.setIfInBounds_toArray,List.set_cons_zero,List.set_cons_succ]
 refine K.P.wpAnyJ_take (i:=1) (oi:={ dst := some 72, op := Op.move (Operand.tmp 16), type := 3, pos := "law.go:89", after := #[], guard := none }) (v:=.int .i64 (i:Int)) rfl rfl (K.P.waits_of (by kernel_rfl)) (by kernel_rfl) (by kernel_rfl) (by kernel_rfl) (fun _ _ _ h=>hQp _ _ _ _ _ h) (Or.inl ⟨by rfl,fun W hS=>?_⟩) G0.out ?_
 ·go_simp
 simp only [Act.put,List.setIfInBounds_toArray,List.set_cons_zero,List.set_cons_succ]
 refine K.P.wpAnyJ_take (i:=2) (oi:={ dst := some 73, op := Op.indexAddr 27 (Operand.tmp 71) (Operand.tmp 72), type := 0, pos := "law.go:89", after := #[{ on := 0, ground := Ground.data }, { on := 1, ground := Ground.data }], guard := none }) (v:=.pointer (some ⟨ga,0 + i * 18,none⟩)) rfl rfl (K.P.waits_of (by kernel_rfl)) (by kernel_rfl) (by kernel_rfl) (by kernel_rfl) (fun _ _ _ h=>hQp _ _ _ _ _ h) (Or.inl ⟨by rfl,fun W hS=>?_⟩) G0.out ?_
 ·go_simp
 simp only [Act.put,List.setIfInBounds_toArray,List.set_cons_zero,List.set_cons_succ]
 refine K.P.wpAnyJ_take (i:=3) (oi:={ dst := some 74, op := Op.load 56 (Operand.tmp 73), type := 56, pos := "law.go:89", after := #[{ on := 2, ground := Ground.data }], guard := none }) (v:=.agg s.cs.toArray) rfl rfl (K.P.waits_of (by kernel_rfl)) (by kernel_rfl) (by kernel_rfl) (by kernel_rfl) (fun _ _ _ h=>hQp _ _ _ _ _ h) (yieldsIf_load_mid rfl 56 _ rfl ga (0 + i * 18) rfl s.cs _ (fun W hS=>HS.out W hS) Tryz.underlying56 rfl infos56) G0.out ?_
 simp only [Act.put,List.setIfInBounds_toArray,List.set_cons_zero,List.set_cons_succ]
 refine K.P.wpAnyJ_take (i:=4) (oi:={ dst := some 75, op := Op.move (Operand.tmp 10), type := 28, pos := "law.go:89", after := #[{ on := 16, ground := Ground.gcOnly Departure.lateStores }], guard := none }) (v:=.slice (some ⟨gs,0,none⟩) ns cs) rfl rfl (K.P.waits_of (by kernel_rfl)) (by kernel_rfl) (by kernel_rfl) (by kernel_rfl) (fun _ _ _ h=>hQp _ _ _ _ _ h) (Or.inl ⟨by rfl,fun W hS=>?_⟩) G0.out ?_
 ·go_simp
 simp only [Act.put,List.setIfInBounds_toArray,List.set_cons_zero,List.set_cons_succ]
 refine K.P.wpAnyJ_take (i:=5) (oi:={ dst := some 76, op := Op.move (Operand.tmp 16), type := 3, pos := "law.go:89", after := #[{ on := 16, ground := Ground.gcOnly Departure.lateStores }], guard := none }) (v:=.int .i64 (i:Int)) rfl rfl (K.P.waits_of (by kernel_rfl)) (by kernel_rfl) (by kernel_rfl) (by kernel_rfl) (fun _ _ _ h=>hQp _ _ _ _ _ h) (Or.inl ⟨by rfl,fun W hS=>?_⟩) G0.out ?_
 ·go_simp
 simp only [Act.put,List.setIfInBounds_toArray,List.set_cons_zero,List.set_cons_succ]
 refine K.P.wpAnyJ_take (i:=6) (oi:={ dst := some 77, op := Op.indexAddr 28 (Operand.tmp 75) (Operand.tmp 76), type := 0, pos := "law.go:89", after := #[{ on := 4, ground := Ground.data }, { on := 5, ground := Ground.data }, { on := 16, ground := Ground.gcOnly Departure.lateStores }], guard := none }) (v:=.pointer (some ⟨gs,0 + i * 6,none⟩)) rfl rfl (K.P.waits_of (by kernel_rfl)) (by kernel_rfl) (by kernel_rfl) (by kernel_rfl) (fun _ _ _ h=>hQp _ _ _ _ _ h) (Or.inl ⟨by rfl,fun W hS=>?_⟩) G0.out ?_
 ·go_simp
 simp only [Act.put,List.setIfInBounds_toArray,List.set_cons_zero,List.set_cons_succ]
 refine K.P.wpAnyJ_take (i:=7) (oi:={ dst := some 78, op := Op.load 42 (Operand.tmp 77), type := 42, pos := "law.go:89", after := #[{ on := 6, ground := Ground.data }, { on := 16, ground := Ground.gcOnly Departure.lateStores }], guard := none }) (v:=.agg #[x0,x1,x2,x3,x4,x5]) rfl rfl (K.P.waits_of (by kernel_rfl)) (by kernel_rfl) (by kernel_rfl) (by kernel_rfl) (fun _ _ _ h=>hQp _ _ _ _ _ h) (yieldsIf_load_mid rfl 42 _ rfl gs (0 + i * 6) rfl [x0,x1,x2,x3,x4,x5] _ (fun W hS=>HX.out W hS) Tryz.underlying42 rfl infos42') G0.out ?_
 simp only [Act.put,List.setIfInBounds_toArray,List.set_cons_zero,List.set_cons_succ]
 refine K.P.wpAnyJ_take (i:=8) (oi:={ dst := some 79, op := Op.move (Operand.tmp 10), type := 28, pos := "law.go:89", after := #[{ on := 17, ground := Ground.gcOnly Departure.lateStores }], guard := none }) (v:=.slice (some ⟨gs,0,none⟩) ns cs) rfl rfl (K.P.waits_of (by kernel_rfl)) (by kernel_rfl) (by kernel_rfl) (by kernel_rfl) (fun _ _ _ h=>hQp _ _ _ _ _ h) (Or.inl ⟨by rfl,fun W hS=>?_⟩) G0.out ?_
 ·go_simp
 simp only [Act.put,List.setIfInBounds_toArray,List.set_cons_zero,List.set_cons_succ]
 refine K.P.wpAnyJ_take (i:=9) (oi:={ dst := some 80, op := Op.move (Operand.tmp 16), type := 3, pos := "law.go:89", after := #[{ on := 17, ground := Ground.gcOnly Departure.lateStores }], guard := none }) (v:=.int .i64 (i:Int)) rfl rfl (K.P.waits_of (by kernel_rfl)) (by kernel_rfl) (by kernel_rfl) (by kernel_rfl) (fun _ _ _ h=>hQp _ _ _ _ _ h) (Or.inl ⟨by rfl,fun W hS=>?_⟩) G0.out ?_
 ·go_simp
 simp only [Act.put,List.setIfInBounds_toArray,List.set_cons_zero,List.set_cons_succ]
 refine K.P.wpAnyJ_take (i:=10) (oi:={ dst := some 81, op := Op.binOp BinOp.add 3 (Operand.tmp 80) (Operand.const (Value.int IntKind.i64 1)) 3, type := 3, pos := "law.go:89", after := #[{ on := 9, ground := Ground.data }, { on := 17, ground := Ground.gcOnly Departure.lateStores }], guard := none }) (v:=.int .i64 (j:Int)) rfl rfl (K.P.waits_of (by kernel_rfl)) (by kernel_rfl) (by kernel_rfl) (by kernel_rfl) (fun _ _ _ h=>hQp _ _ _ _ _ h) (Or.inl ⟨by rfl,fun W hS=>?_⟩) G0.out ?_
 ·go_simp
 simp only [Act.put,List.setIfInBounds_toArray,List.set_cons_zero,List.set_cons_succ]
 refine K.P.wpAnyJ_take (i:=11) (oi:={ dst := some 82, op := Op.indexAddr 28 (Operand.tmp 79) (Operand.tmp 81), type := 0, pos := "law.go:89", after := #[{ on := 8, ground := Ground.data }, { on := 10, ground := Ground.data }, { on := 17, ground := Ground.gcOnly Departure.lateStores }], guard := none }) (v:=.pointer (some ⟨gs,0 + j * 6,none⟩)) rfl rfl (K.P.waits_of (by kernel_rfl)) (by kernel_rfl) (by kernel_rfl) (by kernel_rfl) (fun _ _ _ h=>hQp _ _ _ _ _ h) (Or.inl ⟨by rfl,fun W hS=>?_⟩) G0.out ?_
 ·go_simp
 simp only [Act.put,List.setIfInBounds_toArray,List.set_cons_zero,List.set_cons_succ]
 refine K.P.wpAnyJ_take (i:=12) (oi:={ dst := some 83, op := Op.load 42 (Operand.tmp 82), type := 42, pos := "law.go:89", after := #[{ on := 11, ground := Ground.data }, { on := 17, ground := Ground.gcOnly Departure.lateStores }], guard := none }) (v:=.agg #[l0,l1,l2,l3,l4,l5]) rfl rfl (K.P.waits_of (by kernel_rfl)) (by kernel_rfl) (by kernel_rfl) (by kernel_rfl) (fun _ _ _ h=>hQp _ _ _ _ _ h) (yieldsIf_load_mid rfl 42 _ rfl gs (0 + j * 6) rfl [l0,l1,l2,l3,l4,l5] _ (fun W hS=>HL.out W hS) Tryz.underlying42 rfl infos42') G0.out ?_
 simp only [Act.put,List.setIfInBounds_toArray,List.set_cons_zero,List.set_cons_succ]
 refine K.P.wpAnyJ_ready (rs:=[13,14,15]) (by kernel_rfl) (by simp) ?_
 refine K.P.AllJ.cons (o:={ dst := some 17, op := Op.alloc 56, type := 0, pos := "law.go:89", after := #[], guard := none }) rfl (fun K hK=>?_) (K.P.AllJ.cons (o:={ dst := some 18, op := Op.alloc 42, type := 0, pos := "law.go:89", after := #[], guard := none }) rfl (fun K hK=>?_) (K.P.AllJ.cons (o:={ dst := some 19, op := Op.alloc 42, type := 0, pos := "law.go:89", after := #[], guard := none }) rfl (fun K hK=>?_) (K.P.AllJ.nil)))
 ·go_simp
  obtain ⟨V1,hV1⟩:∃ V1,V0.alloc (.cells #[.int .i64 0,.int .i64 0,.string ⟨#[]⟩,.int .i64 0,.int .i64 0,.string ⟨#[]⟩,.int .i64 0,.string ⟨#[]⟩,.int .i64 0,.int .i64 0,.slice none 0 0,.slice none 0 0,.int .i64 0,.int .i64 0,.int .i64 0,.int .i64 0,.slice none 0 0,.int .i64 0] 56)=V1:=⟨_,rfl⟩
  have G1:Hid (Below A.heap.size A V1):=hV1▸bal G0.out _
  have N1:Hid (Owb V1 V0.heap.size 56 [.int .i64 0,.int .i64 0,.string ⟨#[]⟩,.int .i64 0,.int .i64 0,.string ⟨#[]⟩,.int .i64 0,.string ⟨#[]⟩,.int .i64 0,.int .i64 0,.slice none 0 0,.slice none 0 0,.int .i64 0,.int .i64 0,.int .i64 0,.int .i64 0,.slice none 0 0,.int .i64 0]):=hV1▸Owb.new _ _ _
  have L1:Hid (A.heap.size≤V0.heap.size):=G0.out.size
  have Z1:Hid (V1.heap.size=V0.heap.size + 1):=by rw [Hid,← hV1]; simp
  rw [hV1]
  clear hV1
  refine hK.out _ _ (fun _=>G1.out) ?_
  clear hK K
  try simp only [Act.put,List.setIfInBounds_toArray,List.set_cons_zero,List.set_cons_succ]
  refine K.P.wpAnyJ_ready (rs:=[14,15]) (by kernel_rfl) (by simp) ?_
  refine K.P.AllJ.cons (o:={ dst := some 18, op := Op.alloc 42, type := 0, pos := "law.go:89", after := #[], guard := none }) rfl (fun K hK=>?_) (K.P.AllJ.cons (o:={ dst := some 19, op := Op.alloc 42, type := 0, pos := "law.go:89", after := #[], guard := none }) rfl (fun K hK=>?_) (K.P.AllJ.nil))
  ·go_simp
   obtain ⟨V2,hV2⟩:∃ V2,V1.alloc (.cells #[.int .i64 0,.slice none 0 0,.int .i64 0,.int .i64 0,.int .i64 0,.slice none 0 0] 42)=V2:=⟨_,rfl⟩
   have G2:Hid (Below A.heap.size A V2):=hV2▸bal G1.out _
   have N2:Hid (Owb V2 V1.heap.size 42 [.int .i64 0,.slice none 0 0,.int .i64 0,.int .i64 0,.int .i64 0,.slice none 0 0]):=hV2▸Owb.new _ _ _
   have M21:Hid (Owb V2 V0.heap.size 56 [.int .i64 0,.int .i64 0,.string ⟨#[]⟩,.int .i64 0,.int .i64 0,.string ⟨#[]⟩,.int .i64 0,.string ⟨#[]⟩,.int .i64 0,.int .i64 0,.slice none 0 0,.slice none 0 0,.int .i64 0,.int .i64 0,.int .i64 0,.int .i64 0,.slice none 0 0,.int .i64 0]):=hV2▸N1.out.alloc _
   have L2:Hid (A.heap.size≤V1.heap.size):=G1.out.size
   have Z2:Hid (V2.heap.size=V1.heap.size + 1):=by rw [Hid,← hV2]; simp
   rw [hV2]
   clear hV2
   refine hK.out _ _ (fun _=>G2.out) ?_
   clear hK K
   try simp only [Act.put,List.setIfInBounds_toArray,List.set_cons_zero,List.set_cons_succ]
   refine K.P.wpAnyJ_ready (rs:=[15]) (by kernel_rfl) (by simp) ?_
   refine K.P.AllJ.cons (o:={ dst := some 19, op := Op.alloc 42, type := 0, pos := "law.go:89", after := #[], guard := none }) rfl (fun K hK=>?_) (K.P.AllJ.nil)
   ·go_simp
    obtain ⟨V3,hV3⟩:∃ V3,V2.alloc (.cells #[.int .i64 0,.slice none 0 0,.int .i64 0,.int .i64 0,.int .i64 0,.slice none 0 0] 42)=V3:=⟨_,rfl⟩
    have G3:Hid (Below A.heap.size A V3):=hV3▸bal G2.out _
    have N3:Hid (Owb V3 V2.heap.size 42 [.int .i64 0,.slice none 0 0,.int .i64 0,.int .i64 0,.int .i64 0,.slice none 0 0]):=hV3▸Owb.new _ _ _
    have M31:Hid (Owb V3 V0.heap.size 56 [.int .i64 0,.int .i64 0,.string ⟨#[]⟩,.int .i64 0,.int .i64 0,.string ⟨#[]⟩,.int .i64 0,.string ⟨#[]⟩,.int .i64 0,.int .i64 0,.slice none 0 0,.slice none 0 0,.int .i64 0,.int .i64 0,.int .i64 0,.int .i64 0,.slice none 0 0,.int .i64 0]):=hV3▸M21.out.alloc _
    have M32:Hid (Owb V3 V1.heap.size 42 [.int .i64 0,.slice none 0 0,.int .i64 0,.int .i64 0,.int .i64 0,.slice none 0 0]):=hV3▸N2.out.alloc _
    have L3:Hid (A.heap.size≤V2.heap.size):=G2.out.size
    have Z3:Hid (V3.heap.size=V2.heap.size + 1):=by rw [Hid,← hV3]; simp
    rw [hV3]
    clear hV3
    refine hK.out _ _ (fun _=>G3.out) ?_
    clear hK K
    try simp only [Act.put,List.setIfInBounds_toArray,List.set_cons_zero,List.set_cons_succ]
    refine K.P.wpAnyJ_ready (rs:=[16]) (by kernel_rfl) (by simp) ?_
    refine K.P.AllJ.cons (o:={ dst := none, op := Op.store 56 (Operand.tmp 17) (Operand.tmp 74), type := 0, pos := "law.go:89", after := #[{ on := 13, ground := Ground.data }, { on := 3, ground := Ground.data }, { on := 0, ground := Ground.phase }, { on := 1, ground := Ground.phase }, { on := 2, ground := Ground.phase }, { on := 3, ground := Ground.phase }, { on := 4, ground := Ground.textOnly Departure.lateStores }, { on := 5, ground := Ground.textOnly Departure.lateStores }, { on := 6, ground := Ground.textOnly Departure.lateStores }, { on := 7, ground := Ground.textOnly Departure.lateStores }, { on := 8, ground := Ground.textOnly Departure.lateStores }, { on := 9, ground := Ground.textOnly Departure.lateStores }, { on := 10, ground := Ground.textOnly Departure.lateStores }, { on := 11, ground := Ground.textOnly Departure.lateStores }, { on := 12, ground := Ground.textOnly Departure.lateStores }, { on := 13, ground := Ground.phase }, { on := 14, ground := Ground.phase }, { on := 15, ground := Ground.phase }], guard := none }) rfl (fun K hK=>?_) K.P.AllJ.nil
    rw [if_pos (by rfl)]
    refine wp_store_row 56 _ _ rfl (V0.heap.size) (s.cs).toArray rfl rfl 56 _ M31.out infos56 rfl (all_oneCell_toArray s.one) ?_
    obtain ⟨U1,hU1⟩:∃ U1,V3.setRow (V0.heap.size) (s.cs).toArray=U1:=⟨_,rfl⟩
    have G30:Hid (Below A.heap.size A U1):=hU1▸below_row G3.out (by have:=L1.out; have:=L2.out; have:=L3.out; have:=Z1.out; have:=Z2.out; have:=Z3.out; omega) _
    have F013:Hid (Owb U1 (V0.heap.size) 56 s.cs):=hU1▸M31.out.set _
    have F014:Hid (Owb U1 (V1.heap.size) 42 [.int .i64 0,.slice none 0 0,.int .i64 0,.int .i64 0,.int .i64 0,.slice none 0 0]):=hU1▸M32.out.oth (by have:=L1.out; have:=L2.out; have:=L3.out; have:=Z1.out; have:=Z2.out; have:=Z3.out; omega) _
    have F015:Hid (Owb U1 (V2.heap.size) 42 [.int .i64 0,.slice none 0 0,.int .i64 0,.int .i64 0,.int .i64 0,.slice none 0 0]):=hU1▸N3.out.oth (by have:=L1.out; have:=L2.out; have:=L3.out; have:=Z1.out; have:=Z2.out; have:=Z3.out; omega) _
    rw [hU1]
    clear hU1
    refine hK.out _ _ (fun _=>G30.out) ?_
    clear hK K
    try simp only [Act.put]
    refine K.P.wpAnyJ_ready (rs:=[17]) (by kernel_rfl) (by simp) ?_
    refine K.P.AllJ.cons (o:={ dst := none, op := Op.store 42 (Operand.tmp 18) (Operand.tmp 78), type := 0, pos := "law.go:89", after := #[{ on := 14, ground := Ground.data }, { on := 7, ground := Ground.data }, { on := 16, ground := Ground.chain }, { on := 0, ground := Ground.phase }, { on := 1, ground := Ground.phase }, { on := 2, ground := Ground.phase }, { on := 3, ground := Ground.phase }, { on := 4, ground := Ground.phase }, { on := 5, ground := Ground.phase }, { on := 6, ground := Ground.phase }, { on := 7, ground := Ground.phase }, { on := 8, ground := Ground.textOnly Departure.lateStores }, { on := 9, ground := Ground.textOnly Departure.lateStores }, { on := 10, ground := Ground.textOnly Departure.lateStores }, { on := 11, ground := Ground.textOnly Departure.lateStores }, { on := 12, ground := Ground.textOnly Departure.lateStores }, { on := 13, ground := Ground.phase }, { on := 14, ground := Ground.phase }, { on := 15, ground := Ground.phase }, { on := 16, ground := Ground.phase }], guard := none }) rfl (fun K hK=>?_) K.P.AllJ.nil
    rw [if_pos (by rfl)]
    refine wp_store_row 42 _ _ rfl (V1.heap.size) ([x0,x1,x2,x3,x4,x5]).toArray rfl rfl 42 _ F014.out infos42' rfl (all_oneCell_toArray HX1.out) ?_
    obtain ⟨U2,hU2⟩:∃ U2,U1.setRow (V1.heap.size) ([x0,x1,x2,x3,x4,x5]).toArray=U2:=⟨_,rfl⟩
    have G301:Hid (Below A.heap.size A U2):=hU2▸below_row G30.out (by have:=L1.out; have:=L2.out; have:=L3.out; have:=Z1.out; have:=Z2.out; have:=Z3.out; omega) _
    have F113:Hid (Owb U2 (V0.heap.size) 56 s.cs):=hU2▸F013.out.oth (by have:=L1.out; have:=L2.out; have:=L3.out; have:=Z1.out; have:=Z2.out; have:=Z3.out; omega) _
    have F114:Hid (Owb U2 (V1.heap.size) 42 [x0,x1,x2,x3,x4,x5]):=hU2▸F014.out.set _
    have F115:Hid (Owb U2 (V2.heap.size) 42 [.int .i64 0,.slice none 0 0,.int .i64 0,.int .i64 0,.int .i64 0,.slice none 0 0]):=hU2▸F015.out.oth (by have:=L1.out; have:=L2.out; have:=L3.out; have:=Z1.out; have:=Z2.out; have:=Z3.out; omega) _
    rw [hU2]
    clear hU2
    refine hK.out _ _ (fun _=>G301.out) ?_
    clear hK K
    try simp only [Act.put]
    refine K.P.wpAnyJ_ready (rs:=[18]) (by kernel_rfl) (by simp) ?_
    refine K.P.AllJ.cons (o:={ dst := none, op := Op.store 42 (Operand.tmp 19) (Operand.tmp 83), type := 0, pos := "law.go:89", after := #[{ on := 15, ground := Ground.data }, { on := 12, ground := Ground.data }, { on := 17, ground := Ground.chain }, { on := 0, ground := Ground.phase }, { on := 1, ground := Ground.phase }, { on := 2, ground := Ground.phase }, { on := 3, ground := Ground.phase }, { on := 4, ground := Ground.phase }, { on := 5, ground := Ground.phase }, { on := 6, ground := Ground.phase }, { on := 7, ground := Ground.phase }, { on := 8, ground := Ground.phase }, { on := 9, ground := Ground.phase }, { on := 10, ground := Ground.phase }, { on := 11, ground := Ground.phase }, { on := 12, ground := Ground.phase }, { on := 13, ground := Ground.phase }, { on := 14, ground := Ground.phase }, { on := 15, ground := Ground.phase }, { on := 16, ground := Ground.phase }, { on := 17, ground := Ground.phase }], guard := none }) rfl (fun K hK=>?_) K.P.AllJ.nil
    rw [if_pos (by rfl)]
    refine wp_store_row 42 _ _ rfl (V2.heap.size) ([l0,l1,l2,l3,l4,l5]).toArray rfl rfl 42 _ F115.out infos42' rfl (all_oneCell_toArray HL1.out) ?_
    obtain ⟨U3,hU3⟩:∃ U3,U2.setRow (V2.heap.size) ([l0,l1,l2,l3,l4,l5]).toArray=U3:=⟨_,rfl⟩
    have G3012:Hid (Below A.heap.size A U3):=hU3▸below_row G301.out (by have:=L1.out; have:=L2.out; have:=L3.out; have:=Z1.out; have:=Z2.out; have:=Z3.out; omega) _
    have F213:Hid (Owb U3 (V0.heap.size) 56 s.cs):=hU3▸F113.out.oth (by have:=L1.out; have:=L2.out; have:=L3.out; have:=Z1.out; have:=Z2.out; have:=Z3.out; omega) _
    have F214:Hid (Owb U3 (V1.heap.size) 42 [x0,x1,x2,x3,x4,x5]):=hU3▸F114.out.oth (by have:=L1.out; have:=L2.out; have:=L3.out; have:=Z1.out; have:=Z2.out; have:=Z3.out; omega) _
    have F215:Hid (Owb U3 (V2.heap.size) 42 [l0,l1,l2,l3,l4,l5]):=hU3▸F115.out.set _
    rw [hU3]
    clear hU3
    refine hK.out _ _ (fun _=>G3012.out) ?_
    clear hK K
    try simp only [Act.put]
    exact K.P.wpAnyJ_done (by kernel_rfl) (HEND.out _ _ _ _ _ _ _ _ _ _ _ _ _ _ _ _ U3 G3012.out F213.out F214.out F215.out ⟨(by have:=L1.out; have:=L2.out; have:=L3.out; have:=Z1.out; have:=Z2.out; have:=Z3.out; omega),(by have:=L1.out; have:=L2.out; have:=L3.out; have:=Z1.out; have:=Z2.out; have:=Z3.out; omega),(by have:=L1.out; have:=L2.out; have:=L3.out; have:=Z1.out; have:=Z2.out; have:=Z3.out; omega)⟩) _
  ·go_simp
   obtain ⟨V2,hV2⟩:∃ V2,V1.alloc (.cells #[.int .i64 0,.slice none 0 0,.int .i64 0,.int .i64 0,.int .i64 0,.slice none 0 0] 42)=V2:=⟨_,rfl⟩
   have G2:Hid (Below A.heap.size A V2):=hV2▸bal G1.out _
   have N2:Hid (Owb V2 V1.heap.size 42 [.int .i64 0,.slice none 0 0,.int .i64 0,.int .i64 0,.int .i64 0,.slice none 0 0]):=hV2▸Owb.new _ _ _
   have M21:Hid (Owb V2 V0.heap.size 56 [.int .i64 0,.int .i64 0,.string ⟨#[]⟩,.int .i64 0,.int .i64 0,.string ⟨#[]⟩,.int .i64 0,.string ⟨#[]⟩,.int .i64 0,.int .i64 0,.slice none 0 0,.slice none 0 0,.int .i64 0,.int .i64 0,.int .i64 0,.int .i64 0,.slice none 0 0,.int .i64 0]):=hV2▸N1.out.alloc _
   have L2:Hid (A.heap.size≤V1.heap.size):=G1.out.size
   have Z2:Hid (V2.heap.size=V1.heap.size + 1):=by rw [Hid,← hV2]; simp
   rw [hV2]
   clear hV2
   refine hK.out _ _ (fun _=>G2.out) ?_
   clear hK K
   try simp only [Act.put,List.setIfInBounds_toArray,List.set_cons_zero,List.set_cons_succ]
   refine K.P.wpAnyJ_ready (rs:=[14]) (by kernel_rfl) (by simp) ?_
   refine K.P.AllJ.cons (o:={ dst := some 18, op := Op.alloc 42, type := 0, pos := "law.go:89", after := #[], guard := none }) rfl (fun K hK=>?_) (K.P.AllJ.nil)
   ·go_simp
    obtain ⟨V3,hV3⟩:∃ V3,V2.alloc (.cells #[.int .i64 0,.slice none 0 0,.int .i64 0,.int .i64 0,.int .i64 0,.slice none 0 0] 42)=V3:=⟨_,rfl⟩
    have G3:Hid (Below A.heap.size A V3):=hV3▸bal G2.out _
    have N3:Hid (Owb V3 V2.heap.size 42 [.int .i64 0,.slice none 0 0,.int .i64 0,.int .i64 0,.int .i64 0,.slice none 0 0]):=hV3▸Owb.new _ _ _
    have M31:Hid (Owb V3 V0.heap.size 56 [.int .i64 0,.int .i64 0,.string ⟨#[]⟩,.int .i64 0,.int .i64 0,.string ⟨#[]⟩,.int .i64 0,.string ⟨#[]⟩,.int .i64 0,.int .i64 0,.slice none 0 0,.slice none 0 0,.int .i64 0,.int .i64 0,.int .i64 0,.int .i64 0,.slice none 0 0,.int .i64 0]):=hV3▸M21.out.alloc _
    have M32:Hid (Owb V3 V1.heap.size 42 [.int .i64 0,.slice none 0 0,.int .i64 0,.int .i64 0,.int .i64 0,.slice none 0 0]):=hV3▸N2.out.alloc _
    have L3:Hid (A.heap.size≤V2.heap.size):=G2.out.size
    have Z3:Hid (V3.heap.size=V2.heap.size + 1):=by rw [Hid,← hV3]; simp
    rw [hV3]
    clear hV3
    refine hK.out _ _ (fun _=>G3.out) ?_
    clear hK K
    try simp only [Act.put,List.setIfInBounds_toArray,List.set_cons_zero,List.set_cons_succ]
    refine K.P.wpAnyJ_ready (rs:=[16]) (by kernel_rfl) (by simp) ?_
    refine K.P.AllJ.cons (o:={ dst := none, op := Op.store 56 (Operand.tmp 17) (Operand.tmp 74), type := 0, pos := "law.go:89", after := #[{ on := 13, ground := Ground.data }, { on := 3, ground := Ground.data }, { on := 0, ground := Ground.phase }, { on := 1, ground := Ground.phase }, { on := 2, ground := Ground.phase }, { on := 3, ground := Ground.phase }, { on := 4, ground := Ground.textOnly Departure.lateStores }, { on := 5, ground := Ground.textOnly Departure.lateStores }, { on := 6, ground := Ground.textOnly Departure.lateStores }, { on := 7, ground := Ground.textOnly Departure.lateStores }, { on := 8, ground := Ground.textOnly Departure.lateStores }, { on := 9, ground := Ground.textOnly Departure.lateStores }, { on := 10, ground := Ground.textOnly Departure.lateStores }, { on := 11, ground := Ground.textOnly Departure.lateStores }, { on := 12, ground := Ground.textOnly Departure.lateStores }, { on := 13, ground := Ground.phase }, { on := 14, ground := Ground.phase }, { on := 15, ground := Ground.phase }], guard := none }) rfl (fun K hK=>?_) K.P.AllJ.nil
    rw [if_pos (by rfl)]
    refine wp_store_row 56 _ _ rfl (V0.heap.size) (s.cs).toArray rfl rfl 56 _ M31.out infos56 rfl (all_oneCell_toArray s.one) ?_
    obtain ⟨U1,hU1⟩:∃ U1,V3.setRow (V0.heap.size) (s.cs).toArray=U1:=⟨_,rfl⟩
    have G30:Hid (Below A.heap.size A U1):=hU1▸below_row G3.out (by have:=L1.out; have:=L2.out; have:=L3.out; have:=Z1.out; have:=Z2.out; have:=Z3.out; omega) _
    have F013:Hid (Owb U1 (V0.heap.size) 56 s.cs):=hU1▸M31.out.set _
    have F014:Hid (Owb U1 (V2.heap.size) 42 [.int .i64 0,.slice none 0 0,.int .i64 0,.int .i64 0,.int .i64 0,.slice none 0 0]):=hU1▸N3.out.oth (by have:=L1.out; have:=L2.out; have:=L3.out; have:=Z1.out; have:=Z2.out; have:=Z3.out; omega) _
    have F015:Hid (Owb U1 (V1.heap.size) 42 [.int .i64 0,.slice none 0 0,.int .i64 0,.int .i64 0,.int .i64 0,.slice none 0 0]):=hU1▸M32.out.oth (by have:=L1.out; have:=L2.out; have:=L3.out; have:=Z1.out; have:=Z2.out; have:=Z3.out; omega) _
    rw [hU1]
    clear hU1
    refine hK.out _ _ (fun _=>G30.out) ?_
    clear hK K
    try simp only [Act.put]
    refine K.P.wpAnyJ_ready (rs:=[17]) (by kernel_rfl) (by simp) ?_
    refine K.P.AllJ.cons (o:={ dst := none, op := Op.store 42 (Operand.tmp 18) (Operand.tmp 78), type := 0, pos := "law.go:89", after := #[{ on := 14, ground := Ground.data }, { on := 7, ground := Ground.data }, { on := 16, ground := Ground.chain }, { on := 0, ground := Ground.phase }, { on := 1, ground := Ground.phase }, { on := 2, ground := Ground.phase }, { on := 3, ground := Ground.phase }, { on := 4, ground := Ground.phase }, { on := 5, ground := Ground.phase }, { on := 6, ground := Ground.phase }, { on := 7, ground := Ground.phase }, { on := 8, ground := Ground.textOnly Departure.lateStores }, { on := 9, ground := Ground.textOnly Departure.lateStores }, { on := 10, ground := Ground.textOnly Departure.lateStores }, { on := 11, ground := Ground.textOnly Departure.lateStores }, { on := 12, ground := Ground.textOnly Departure.lateStores }, { on := 13, ground := Ground.phase }, { on := 14, ground := Ground.phase }, { on := 15, ground := Ground.phase }, { on := 16, ground := Ground.phase }], guard := none }) rfl (fun K hK=>?_) K.P.AllJ.nil
    rw [if_pos (by rfl)]
    refine wp_store_row 42 _ _ rfl (V2.heap.size) ([x0,x1,x2,x3,x4,x5]).toArray rfl rfl 42 _ F014.out infos42' rfl (all_oneCell_toArray HX1.out) ?_
    obtain ⟨U2,hU2⟩:∃ U2,U1.setRow (V2.heap.size) ([x0,x1,x2,x3,x4,x5]).toArray=U2:=⟨_,rfl⟩
    have G301:Hid (Below A.heap.size A U2):=hU2▸below_row G30.out (by have:=L1.out; have:=L2.out; have:=L3.out; have:=Z1.out; have:=Z2.out; have:=Z3.out; omega) _
    have F113:Hid (Owb U2 (V0.heap.size) 56 s.cs):=hU2▸F013.out.oth (by have:=L1.out; have:=L2.out; have:=L3.out; have:=Z1.out; have:=Z2.out; have:=Z3.out; omega) _
    have F114:Hid (Owb U2 (V2.heap.size) 42 [x0,x1,x2,x3,x4,x5]):=hU2▸F014.out.set _
    have F115:Hid (Owb U2 (V1.heap.size) 42 [.int .i64 0,.slice none 0 0,.int .i64 0,.int .i64 0,.int .i64 0,.slice none 0 0]):=hU2▸F015.out.oth (by have:=L1.out; have:=L2.out; have:=L3.out; have:=Z1.out; have:=Z2.out; have:=Z3.out; omega) _
    rw [hU2]
    clear hU2
    refine hK.out _ _ (fun _=>G301.out) ?_
    clear hK K
    try simp only [Act.put]
    refine K.P.wpAnyJ_ready (rs:=[18]) (by kernel_rfl) (by simp) ?_
    refine K.P.AllJ.cons (o:={ dst := none, op := Op.store 42 (Operand.tmp 19) (Operand.tmp 83), type := 0, pos := "law.go:89", after := #[{ on := 15, ground := Ground.data }, { on := 12, ground := Ground.data }, { on := 17, ground := Ground.chain }, { on := 0, ground := Ground.phase }, { on := 1, ground := Ground.phase }, { on := 2, ground := Ground.phase }, { on := 3, ground := Ground.phase }, { on := 4, ground := Ground.phase }, { on := 5, ground := Ground.phase }, { on := 6, ground := Ground.phase }, { on := 7, ground := Ground.phase }, { on := 8, ground := Ground.phase }, { on := 9, ground := Ground.phase }, { on := 10, ground := Ground.phase }, { on := 11, ground := Ground.phase }, { on := 12, ground := Ground.phase }, { on := 13, ground := Ground.phase }, { on := 14, ground := Ground.phase }, { on := 15, ground := Ground.phase }, { on := 16, ground := Ground.phase }, { on := 17, ground := Ground.phase }], guard := none }) rfl (fun K hK=>?_) K.P.AllJ.nil
    rw [if_pos (by rfl)]
    refine wp_store_row 42 _ _ rfl (V1.heap.size) ([l0,l1,l2,l3,l4,l5]).toArray rfl rfl 42 _ F115.out infos42' rfl (all_oneCell_toArray HL1.out) ?_
    obtain ⟨U3,hU3⟩:∃ U3,U2.setRow (V1.heap.size) ([l0,l1,l2,l3,l4,l5]).toArray=U3:=⟨_,rfl⟩
    have G3012:Hid (Below A.heap.size A U3):=hU3▸below_row G301.out (by have:=L1.out; have:=L2.out; have:=L3.out; have:=Z1.out; have:=Z2.out; have:=Z3.out; omega) _
    have F213:Hid (Owb U3 (V0.heap.size) 56 s.cs):=hU3▸F113.out.oth (by have:=L1.out; have:=L2.out; have:=L3.out; have:=Z1.out; have:=Z2.out; have:=Z3.out; omega) _
    have F214:Hid (Owb U3 (V2.heap.size) 42 [x0,x1,x2,x3,x4,x5]):=hU3▸F114.out.oth (by have:=L1.out; have:=L2.out; have:=L3.out; have:=Z1.out; have:=Z2.out; have:=Z3.out; omega) _
    have F215:Hid (Owb U3 (V1.heap.size) 42 [l0,l1,l2,l3,l4,l5]):=hU3▸F115.out.set _
    rw [hU3]
    clear hU3
    refine hK.out _ _ (fun _=>G3012.out) ?_
    clear hK K
    try simp only [Act.put]
    exact K.P.wpAnyJ_done (by kernel_rfl) (HEND.out _ _ _ _ _ _ _ _ _ _ _ _ _ _ _ _ U3 G3012.out F213.out F214.out F215.out ⟨(by have:=L1.out; have:=L2.out; have:=L3.out; have:=Z1.out; have:=Z2.out; have:=Z3.out; omega),(by have:=L1.out; have:=L2.out; have:=L3.out; have:=Z1.out; have:=Z2.out; have:=Z3.out; omega),(by have:=L1.out; have:=L2.out; have:=L3.out; have:=Z1.out; have:=Z2.out; have:=Z3.out; omega)⟩) _
 ·go_simp
  obtain ⟨V1,hV1⟩:∃ V1,V0.alloc (.cells #[.int .i64 0,.slice none 0 0,.int .i64 0,.int .i64 0,.int .i64 0,.slice none 0 0] 42)=V1:=⟨_,rfl⟩
  have G1:Hid (Below A.heap.size A V1):=hV1▸bal G0.out _
  have N1:Hid (Owb V1 V0.heap.size 42 [.int .i64 0,.slice none 0 0,.int .i64 0,.int .i64 0,.int .i64 0,.slice none 0 0]):=hV1▸Owb.new _ _ _
  have L1:Hid (A.heap.size≤V0.heap.size):=G0.out.size
  have Z1:Hid (V1.heap.size=V0.heap.size + 1):=by rw [Hid,← hV1]; simp
  rw [hV1]
  clear hV1
  refine hK.out _ _ (fun _=>G1.out) ?_
  clear hK K
  try simp only [Act.put,List.setIfInBounds_toArray,List.set_cons_zero,List.set_cons_succ]
  refine K.P.wpAnyJ_ready (rs:=[13,15]) (by kernel_rfl) (by simp) ?_
  refine K.P.AllJ.cons (o:={ dst := some 17, op := Op.alloc 56, type := 0, pos := "law.go:89", after := #[], guard := none }) rfl (fun K hK=>?_) (K.P.AllJ.cons (o:={ dst := some 19, op := Op.alloc 42, type := 0, pos := "law.go:89", after := #[], guard := none }) rfl (fun K hK=>?_) (K.P.AllJ.nil))
  ·go_simp
   obtain ⟨V2,hV2⟩:∃ V2,V1.alloc (.cells #[.int .i64 0,.int .i64 0,.string ⟨#[]⟩,.int .i64 0,.int .i64 0,.string ⟨#[]⟩,.int .i64 0,.string ⟨#[]⟩,.int .i64 0,.int .i64 0,.slice none 0 0,.slice none 0 0,.int .i64 0,.int .i64 0,.int .i64 0,.int .i64 0,.slice none 0 0,.int .i64 0] 56)=V2:=⟨_,rfl⟩
   have G2:Hid (Below A.heap.size A V2):=hV2▸bal G1.out _
   have N2:Hid (Owb V2 V1.heap.size 56 [.int .i64 0,.int .i64 0,.string ⟨#[]⟩,.int .i64 0,.int .i64 0,.string ⟨#[]⟩,.int .i64 0,.string ⟨#[]⟩,.int .i64 0,.int .i64 0,.slice none 0 0,.slice none 0 0,.int .i64 0,.int .i64 0,.int .i64 0,.int .i64 0,.slice none 0 0,.int .i64 0]):=hV2▸Owb.new _ _ _
   have M21:Hid (Owb V2 V0.heap.size 42 [.int .i64 0,.slice none 0 0,.int .i64 0,.int .i64 0,.int .i64 0,.slice none 0 0]):=hV2▸N1.out.alloc _
   have L2:Hid (A.heap.size≤V1.heap.size):=G1.out.size
   have Z2:Hid (V2.heap.size=V1.heap.size + 1):=by rw [Hid,← hV2]; simp
   rw [hV2]
   clear hV2
   refine hK.out _ _ (fun _=>G2.out) ?_
   clear hK K
   try simp only [Act.put,List.setIfInBounds_toArray,List.set_cons_zero,List.set_cons_succ]
   refine K.P.wpAnyJ_ready (rs:=[15]) (by kernel_rfl) (by simp) ?_
   refine K.P.AllJ.cons (o:={ dst := some 19, op := Op.alloc 42, type := 0, pos := "law.go:89", after := #[], guard := none }) rfl (fun K hK=>?_) (K.P.AllJ.nil)
   ·go_simp
    obtain ⟨V3,hV3⟩:∃ V3,V2.alloc (.cells #[.int .i64 0,.slice none 0 0,.int .i64 0,.int .i64 0,.int .i64 0,.slice none 0 0] 42)=V3:=⟨_,rfl⟩
    have G3:Hid (Below A.heap.size A V3):=hV3▸bal G2.out _
    have N3:Hid (Owb V3 V2.heap.size 42 [.int .i64 0,.slice none 0 0,.int .i64 0,.int .i64 0,.int .i64 0,.slice none 0 0]):=hV3▸Owb.new _ _ _
    have M31:Hid (Owb V3 V0.heap.size 42 [.int .i64 0,.slice none 0 0,.int .i64 0,.int .i64 0,.int .i64 0,.slice none 0 0]):=hV3▸M21.out.alloc _
    have M32:Hid (Owb V3 V1.heap.size 56 [.int .i64 0,.int .i64 0,.string ⟨#[]⟩,.int .i64 0,.int .i64 0,.string ⟨#[]⟩,.int .i64 0,.string ⟨#[]⟩,.int .i64 0,.int .i64 0,.slice none 0 0,.slice none 0 0,.int .i64 0,.int .i64 0,.int .i64 0,.int .i64 0,.slice none 0 0,.int .i64 0]):=hV3▸N2.out.alloc _
    have L3:Hid (A.heap.size≤V2.heap.size):=G2.out.size
    have Z3:Hid (V3.heap.size=V2.heap.size + 1):=by rw [Hid,← hV3]; simp
    rw [hV3]
    clear hV3
    refine hK.out _ _ (fun _=>G3.out) ?_
    clear hK K
    try simp only [Act.put,List.setIfInBounds_toArray,List.set_cons_zero,List.set_cons_succ]
    refine K.P.wpAnyJ_ready (rs:=[16]) (by kernel_rfl) (by simp) ?_
    refine K.P.AllJ.cons (o:={ dst := none, op := Op.store 56 (Operand.tmp 17) (Operand.tmp 74), type := 0, pos := "law.go:89", after := #[{ on := 13, ground := Ground.data }, { on := 3, ground := Ground.data }, { on := 0, ground := Ground.phase }, { on := 1, ground := Ground.phase }, { on := 2, ground := Ground.phase }, { on := 3, ground := Ground.phase }, { on := 4, ground := Ground.textOnly Departure.lateStores }, { on := 5, ground := Ground.textOnly Departure.lateStores }, { on := 6, ground := Ground.textOnly Departure.lateStores }, { on := 7, ground := Ground.textOnly Departure.lateStores }, { on := 8, ground := Ground.textOnly Departure.lateStores }, { on := 9, ground := Ground.textOnly Departure.lateStores }, { on := 10, ground := Ground.textOnly Departure.lateStores }, { on := 11, ground := Ground.textOnly Departure.lateStores }, { on := 12, ground := Ground.textOnly Departure.lateStores }, { on := 13, ground := Ground.phase }, { on := 14, ground := Ground.phase }, { on := 15, ground := Ground.phase }], guard := none }) rfl (fun K hK=>?_) K.P.AllJ.nil
    rw [if_pos (by rfl)]
    refine wp_store_row 56 _ _ rfl (V1.heap.size) (s.cs).toArray rfl rfl 56 _ M32.out infos56 rfl (all_oneCell_toArray s.one) ?_
    obtain ⟨U1,hU1⟩:∃ U1,V3.setRow (V1.heap.size) (s.cs).toArray=U1:=⟨_,rfl⟩
    have G30:Hid (Below A.heap.size A U1):=hU1▸below_row G3.out (by have:=L1.out; have:=L2.out; have:=L3.out; have:=Z1.out; have:=Z2.out; have:=Z3.out; omega) _
    have F013:Hid (Owb U1 (V1.heap.size) 56 s.cs):=hU1▸M32.out.set _
    have F014:Hid (Owb U1 (V0.heap.size) 42 [.int .i64 0,.slice none 0 0,.int .i64 0,.int .i64 0,.int .i64 0,.slice none 0 0]):=hU1▸M31.out.oth (by have:=L1.out; have:=L2.out; have:=L3.out; have:=Z1.out; have:=Z2.out; have:=Z3.out; omega) _
    have F015:Hid (Owb U1 (V2.heap.size) 42 [.int .i64 0,.slice none 0 0,.int .i64 0,.int .i64 0,.int .i64 0,.slice none 0 0]):=hU1▸N3.out.oth (by have:=L1.out; have:=L2.out; have:=L3.out; have:=Z1.out; have:=Z2.out; have:=Z3.out; omega) _
    rw [hU1]
    clear hU1
    refine hK.out _ _ (fun _=>G30.out) ?_
    clear hK K
    try simp only [Act.put]
    refine K.P.wpAnyJ_ready (rs:=[17]) (by kernel_rfl) (by simp) ?_
    refine K.P.AllJ.cons (o:={ dst := none, op := Op.store 42 (Operand.tmp 18) (Operand.tmp 78), type := 0, pos := "law.go:89", after := #[{ on := 14, ground := Ground.data }, { on := 7, ground := Ground.data }, { on := 16, ground := Ground.chain }, { on := 0, ground := Ground.phase }, { on := 1, ground := Ground.phase }, { on := 2, ground := Ground.phase }, { on := 3, ground := Ground.phase }, { on := 4, ground := Ground.phase }, { on := 5, ground := Ground.phase }, { on := 6, ground := Ground.phase }, { on := 7, ground := Ground.phase }, { on := 8, ground := Ground.textOnly Departure.lateStores }, { on := 9, ground := Ground.textOnly Departure.lateStores }, { on := 10, ground := Ground.textOnly Departure.lateStores }, { on := 11, ground := Ground.textOnly Departure.lateStores }, { on := 12, ground := Ground.textOnly Departure.lateStores }, { on := 13, ground := Ground.phase }, { on := 14, ground := Ground.phase }, { on := 15, ground := Ground.phase }, { on := 16, ground := Ground.phase }], guard := none }) rfl (fun K hK=>?_) K.P.AllJ.nil
    rw [if_pos (by rfl)]
    refine wp_store_row 42 _ _ rfl (V0.heap.size) ([x0,x1,x2,x3,x4,x5]).toArray rfl rfl 42 _ F014.out infos42' rfl (all_oneCell_toArray HX1.out) ?_
    obtain ⟨U2,hU2⟩:∃ U2,U1.setRow (V0.heap.size) ([x0,x1,x2,x3,x4,x5]).toArray=U2:=⟨_,rfl⟩
    have G301:Hid (Below A.heap.size A U2):=hU2▸below_row G30.out (by have:=L1.out; have:=L2.out; have:=L3.out; have:=Z1.out; have:=Z2.out; have:=Z3.out; omega) _
    have F113:Hid (Owb U2 (V1.heap.size) 56 s.cs):=hU2▸F013.out.oth (by have:=L1.out; have:=L2.out; have:=L3.out; have:=Z1.out; have:=Z2.out; have:=Z3.out; omega) _
    have F114:Hid (Owb U2 (V0.heap.size) 42 [x0,x1,x2,x3,x4,x5]):=hU2▸F014.out.set _
    have F115:Hid (Owb U2 (V2.heap.size) 42 [.int .i64 0,.slice none 0 0,.int .i64 0,.int .i64 0,.int .i64 0,.slice none 0 0]):=hU2▸F015.out.oth (by have:=L1.out; have:=L2.out; have:=L3.out; have:=Z1.out; have:=Z2.out; have:=Z3.out; omega) _
    rw [hU2]
    clear hU2
    refine hK.out _ _ (fun _=>G301.out) ?_
    clear hK K
    try simp only [Act.put]
    refine K.P.wpAnyJ_ready (rs:=[18]) (by kernel_rfl) (by simp) ?_
    refine K.P.AllJ.cons (o:={ dst := none, op := Op.store 42 (Operand.tmp 19) (Operand.tmp 83), type := 0, pos := "law.go:89", after := #[{ on := 15, ground := Ground.data }, { on := 12, ground := Ground.data }, { on := 17, ground := Ground.chain }, { on := 0, ground := Ground.phase }, { on := 1, ground := Ground.phase }, { on := 2, ground := Ground.phase }, { on := 3, ground := Ground.phase }, { on := 4, ground := Ground.phase }, { on := 5, ground := Ground.phase }, { on := 6, ground := Ground.phase }, { on := 7, ground := Ground.phase }, { on := 8, ground := Ground.phase }, { on := 9, ground := Ground.phase }, { on := 10, ground := Ground.phase }, { on := 11, ground := Ground.phase }, { on := 12, ground := Ground.phase }, { on := 13, ground := Ground.phase }, { on := 14, ground := Ground.phase }, { on := 15, ground := Ground.phase }, { on := 16, ground := Ground.phase }, { on := 17, ground := Ground.phase }], guard := none }) rfl (fun K hK=>?_) K.P.AllJ.nil
    rw [if_pos (by rfl)]
    refine wp_store_row 42 _ _ rfl (V2.heap.size) ([l0,l1,l2,l3,l4,l5]).toArray rfl rfl 42 _ F115.out infos42' rfl (all_oneCell_toArray HL1.out) ?_
    obtain ⟨U3,hU3⟩:∃ U3,U2.setRow (V2.heap.size) ([l0,l1,l2,l3,l4,l5]).toArray=U3:=⟨_,rfl⟩
    have G3012:Hid (Below A.heap.size A U3):=hU3▸below_row G301.out (by have:=L1.out; have:=L2.out; have:=L3.out; have:=Z1.out; have:=Z2.out; have:=Z3.out; omega) _
    have F213:Hid (Owb U3 (V1.heap.size) 56 s.cs):=hU3▸F113.out.oth (by have:=L1.out; have:=L2.out; have:=L3.out; have:=Z1.out; have:=Z2.out; have:=Z3.out; omega) _
    have F214:Hid (Owb U3 (V0.heap.size) 42 [x0,x1,x2,x3,x4,x5]):=hU3▸F114.out.oth (by have:=L1.out; have:=L2.out; have:=L3.out; have:=Z1.out; have:=Z2.out; have:=Z3.out; omega) _
    have F215:Hid (Owb U3 (V2.heap.size) 42 [l0,l1,l2,l3,l4,l5]):=hU3▸F115.out.set _
    rw [hU3]
    clear hU3
    refine hK.out _ _ (fun _=>G3012.out) ?_
    clear hK K
    try simp only [Act.put]
    exact K.P.wpAnyJ_done (by kernel_rfl) (HEND.out _ _ _ _ _ _ _ _ _ _ _ _ _ _ _ _ U3 G3012.out F213.out F214.out F215.out ⟨(by have:=L1.out; have:=L2.out; have:=L3.out; have:=Z1.out; have:=Z2.out; have:=Z3.out; omega),(by have:=L1.out; have:=L2.out; have:=L3.out; have:=Z1.out; have:=Z2.out; have:=Z3.out; omega),(by have:=L1.out; have:=L2.out; have:=L3.out; have:=Z1.out; have:=Z2.out; have:=Z3.out; omega)⟩) _
  ·go_simp
   obtain ⟨V2,hV2⟩:∃ V2,V1.alloc (.cells #[.int .i64 0,.slice none 0 0,.int .i64 0,.int .i64 0,.int .i64 0,.slice none 0 0] 42)=V2:=⟨_,rfl⟩
   have G2:Hid (Below A.heap.size A V2):=hV2▸bal G1.out _
   have N2:Hid (Owb V2 V1.heap.size 42 [.int .i64 0,.slice none 0 0,.int .i64 0,.int .i64 0,.int .i64 0,.slice none 0 0]):=hV2▸Owb.new _ _ _
   have M21:Hid (Owb V2 V0.heap.size 42 [.int .i64 0,.slice none 0 0,.int .i64 0,.int .i64 0,.int .i64 0,.slice none 0 0]):=hV2▸N1.out.alloc _
   have L2:Hid (A.heap.size≤V1.heap.size):=G1.out.size
   have Z2:Hid (V2.heap.size=V1.heap.size + 1):=by rw [Hid,← hV2]; simp
   rw [hV2]
   clear hV2
   refine hK.out _ _ (fun _=>G2.out) ?_
   clear hK K
   try simp only [Act.put,List.setIfInBounds_toArray,List.set_cons_zero,List.set_cons_succ]
   refine K.P.wpAnyJ_ready (rs:=[13]) (by kernel_rfl) (by simp) ?_
   refine K.P.AllJ.cons (o:={ dst := some 17, op := Op.alloc 56, type := 0, pos := "law.go:89", after := #[], guard := none }) rfl (fun K hK=>?_) (K.P.AllJ.nil)
   ·go_simp
    obtain ⟨V3,hV3⟩:∃ V3,V2.alloc (.cells #[.int .i64 0,.int .i64 0,.string ⟨#[]⟩,.int .i64 0,.int .i64 0,.string ⟨#[]⟩,.int .i64 0,.string ⟨#[]⟩,.int .i64 0,.int .i64 0,.slice none 0 0,.slice none 0 0,.int .i64 0,.int .i64 0,.int .i64 0,.int .i64 0,.slice none 0 0,.int .i64 0] 56)=V3:=⟨_,rfl⟩
    have G3:Hid (Below A.heap.size A V3):=hV3▸bal G2.out _
    have N3:Hid (Owb V3 V2.heap.size 56 [.int .i64 0,.int .i64 0,.string ⟨#[]⟩,.int .i64 0,.int .i64 0,.string ⟨#[]⟩,.int .i64 0,.string ⟨#[]⟩,.int .i64 0,.int .i64 0,.slice none 0 0,.slice none 0 0,.int .i64 0,.int .i64 0,.int .i64 0,.int .i64 0,.slice none 0 0,.int .i64 0]):=hV3▸Owb.new _ _ _
    have M31:Hid (Owb V3 V0.heap.size 42 [.int .i64 0,.slice none 0 0,.int .i64 0,.int .i64 0,.int .i64 0,.slice none 0 0]):=hV3▸M21.out.alloc _
    have M32:Hid (Owb V3 V1.heap.size 42 [.int .i64 0,.slice none 0 0,.int .i64 0,.int .i64 0,.int .i64 0,.slice none 0 0]):=hV3▸N2.out.alloc _
    have L3:Hid (A.heap.size≤V2.heap.size):=G2.out.size
    have Z3:Hid (V3.heap.size=V2.heap.size + 1):=by rw [Hid,← hV3]; simp
    rw [hV3]
    clear hV3
    refine hK.out _ _ (fun _=>G3.out) ?_
    clear hK K
    try simp only [Act.put,List.setIfInBounds_toArray,List.set_cons_zero,List.set_cons_succ]
    refine K.P.wpAnyJ_ready (rs:=[16]) (by kernel_rfl) (by simp) ?_
    refine K.P.AllJ.cons (o:={ dst := none, op := Op.store 56 (Operand.tmp 17) (Operand.tmp 74), type := 0, pos := "law.go:89", after := #[{ on := 13, ground := Ground.data }, { on := 3, ground := Ground.data }, { on := 0, ground := Ground.phase }, { on := 1, ground := Ground.phase }, { on := 2, ground := Ground.phase }, { on := 3, ground := Ground.phase }, { on := 4, ground := Ground.textOnly Departure.lateStores }, { on := 5, ground := Ground.textOnly Departure.lateStores }, { on := 6, ground := Ground.textOnly Departure.lateStores }, { on := 7, ground := Ground.textOnly Departure.lateStores }, { on := 8, ground := Ground.textOnly Departure.lateStores }, { on := 9, ground := Ground.textOnly Departure.lateStores }, { on := 10, ground := Ground.textOnly Departure.lateStores }, { on := 11, ground := Ground.textOnly Departure.lateStores }, { on := 12, ground := Ground.textOnly Departure.lateStores }, { on := 13, ground := Ground.phase }, { on := 14, ground := Ground.phase }, { on := 15, ground := Ground.phase }], guard := none }) rfl (fun K hK=>?_) K.P.AllJ.nil
    rw [if_pos (by rfl)]
    refine wp_store_row 56 _ _ rfl (V2.heap.size) (s.cs).toArray rfl rfl 56 _ N3.out infos56 rfl (all_oneCell_toArray s.one) ?_
    obtain ⟨U1,hU1⟩:∃ U1,V3.setRow (V2.heap.size) (s.cs).toArray=U1:=⟨_,rfl⟩
    have G30:Hid (Below A.heap.size A U1):=hU1▸below_row G3.out (by have:=L1.out; have:=L2.out; have:=L3.out; have:=Z1.out; have:=Z2.out; have:=Z3.out; omega) _
    have F013:Hid (Owb U1 (V2.heap.size) 56 s.cs):=hU1▸N3.out.set _
    have F014:Hid (Owb U1 (V0.heap.size) 42 [.int .i64 0,.slice none 0 0,.int .i64 0,.int .i64 0,.int .i64 0,.slice none 0 0]):=hU1▸M31.out.oth (by have:=L1.out; have:=L2.out; have:=L3.out; have:=Z1.out; have:=Z2.out; have:=Z3.out; omega) _
    have F015:Hid (Owb U1 (V1.heap.size) 42 [.int .i64 0,.slice none 0 0,.int .i64 0,.int .i64 0,.int .i64 0,.slice none 0 0]):=hU1▸M32.out.oth (by have:=L1.out; have:=L2.out; have:=L3.out; have:=Z1.out; have:=Z2.out; have:=Z3.out; omega) _
    rw [hU1]
    clear hU1
    refine hK.out _ _ (fun _=>G30.out) ?_
    clear hK K
    try simp only [Act.put]
    refine K.P.wpAnyJ_ready (rs:=[17]) (by kernel_rfl) (by simp) ?_
    refine K.P.AllJ.cons (o:={ dst := none, op := Op.store 42 (Operand.tmp 18) (Operand.tmp 78), type := 0, pos := "law.go:89", after := #[{ on := 14, ground := Ground.data }, { on := 7, ground := Ground.data }, { on := 16, ground := Ground.chain }, { on := 0, ground := Ground.phase }, { on := 1, ground := Ground.phase }, { on := 2, ground := Ground.phase }, { on := 3, ground := Ground.phase }, { on := 4, ground := Ground.phase }, { on := 5, ground := Ground.phase }, { on := 6, ground := Ground.phase }, { on := 7, ground := Ground.phase }, { on := 8, ground := Ground.textOnly Departure.lateStores }, { on := 9, ground := Ground.textOnly Departure.lateStores }, { on := 10, ground := Ground.textOnly Departure.lateStores }, { on := 11, ground := Ground.textOnly Departure.lateStores }, { on := 12, ground := Ground.textOnly Departure.lateStores }, { on := 13, ground := Ground.phase }, { on := 14, ground := Ground.phase }, { on := 15, ground := Ground.phase }, { on := 16, ground := Ground.phase }], guard := none }) rfl (fun K hK=>?_) K.P.AllJ.nil
    rw [if_pos (by rfl)]
    refine wp_store_row 42 _ _ rfl (V0.heap.size) ([x0,x1,x2,x3,x4,x5]).toArray rfl rfl 42 _ F014.out infos42' rfl (all_oneCell_toArray HX1.out) ?_
    obtain ⟨U2,hU2⟩:∃ U2,U1.setRow (V0.heap.size) ([x0,x1,x2,x3,x4,x5]).toArray=U2:=⟨_,rfl⟩
    have G301:Hid (Below A.heap.size A U2):=hU2▸below_row G30.out (by have:=L1.out; have:=L2.out; have:=L3.out; have:=Z1.out; have:=Z2.out; have:=Z3.out; omega) _
    have F113:Hid (Owb U2 (V2.heap.size) 56 s.cs):=hU2▸F013.out.oth (by have:=L1.out; have:=L2.out; have:=L3.out; have:=Z1.out; have:=Z2.out; have:=Z3.out; omega) _
    have F114:Hid (Owb U2 (V0.heap.size) 42 [x0,x1,x2,x3,x4,x5]):=hU2▸F014.out.set _
    have F115:Hid (Owb U2 (V1.heap.size) 42 [.int .i64 0,.slice none 0 0,.int .i64 0,.int .i64 0,.int .i64 0,.slice none 0 0]):=hU2▸F015.out.oth (by have:=L1.out; have:=L2.out; have:=L3.out; have:=Z1.out; have:=Z2.out; have:=Z3.out; omega) _
    rw [hU2]
    clear hU2
    refine hK.out _ _ (fun _=>G301.out) ?_
    clear hK K
    try simp only [Act.put]
    refine K.P.wpAnyJ_ready (rs:=[18]) (by kernel_rfl) (by simp) ?_
    refine K.P.AllJ.cons (o:={ dst := none, op := Op.store 42 (Operand.tmp 19) (Operand.tmp 83), type := 0, pos := "law.go:89", after := #[{ on := 15, ground := Ground.data }, { on := 12, ground := Ground.data }, { on := 17, ground := Ground.chain }, { on := 0, ground := Ground.phase }, { on := 1, ground := Ground.phase }, { on := 2, ground := Ground.phase }, { on := 3, ground := Ground.phase }, { on := 4, ground := Ground.phase }, { on := 5, ground := Ground.phase }, { on := 6, ground := Ground.phase }, { on := 7, ground := Ground.phase }, { on := 8, ground := Ground.phase }, { on := 9, ground := Ground.phase }, { on := 10, ground := Ground.phase }, { on := 11, ground := Ground.phase }, { on := 12, ground := Ground.phase }, { on := 13, ground := Ground.phase }, { on := 14, ground := Ground.phase }, { on := 15, ground := Ground.phase }, { on := 16, ground := Ground.phase }, { on := 17, ground := Ground.phase }], guard := none }) rfl (fun K hK=>?_) K.P.AllJ.nil
    rw [if_pos (by rfl)]
    refine wp_store_row 42 _ _ rfl (V1.heap.size) ([l0,l1,l2,l3,l4,l5]).toArray rfl rfl 42 _ F115.out infos42' rfl (all_oneCell_toArray HL1.out) ?_
    obtain ⟨U3,hU3⟩:∃ U3,U2.setRow (V1.heap.size) ([l0,l1,l2,l3,l4,l5]).toArray=U3:=⟨_,rfl⟩
    have G3012:Hid (Below A.heap.size A U3):=hU3▸below_row G301.out (by have:=L1.out; have:=L2.out; have:=L3.out; have:=Z1.out; have:=Z2.out; have:=Z3.out; omega) _
    have F213:Hid (Owb U3 (V2.heap.size) 56 s.cs):=hU3▸F113.out.oth (by have:=L1.out; have:=L2.out; have:=L3.out; have:=Z1.out; have:=Z2.out; have:=Z3.out; omega) _
    have F214:Hid (Owb U3 (V0.heap.size) 42 [x0,x1,x2,x3,x4,x5]):=hU3▸F114.out.oth (by have:=L1.out; have:=L2.out; have:=L3.out; have:=Z1.out; have:=Z2.out; have:=Z3.out; omega) _
    have F215:Hid (Owb U3 (V1.heap.size) 42 [l0,l1,l2,l3,l4,l5]):=hU3▸F115.out.set _
    rw [hU3]
    clear hU3
    refine hK.out _ _ (fun _=>G3012.out) ?_
    clear hK K
    try simp only [Act.put]
    exact K.P.wpAnyJ_done (by kernel_rfl) (HEND.out _ _ _ _ _ _ _ _ _ _ _ _ _ _ _ _ U3 G3012.out F213.out F214.out F215.out ⟨(by have:=L1.out; have:=L2.out; have:=L3.out; have:=Z1.out; have:=Z2.out; have:=Z3.out; omega),(by have:=L1.out; have:=L2.out; have:=L3.out; have:=Z1.out; have:=Z2.out; have:=Z3.out; omega),(by have:=L1.out; have:=L2.out; have:=L3.out; have:=Z1.out; have:=Z2.out; have:=Z3.out; omega)⟩) _
 ·go_simp
  obtain ⟨V1,hV1⟩:∃ V1,V0.alloc (.cells #[.int .i64 0,.slice none 0 0,.int .i64 0,.int .i64 0,.int .i64 0,.slice none 0 0] 42)=V1:=⟨_,rfl⟩
  have G1:Hid (Below A.heap.size A V1):=hV1▸bal G0.out _
  have N1:Hid (Owb V1 V0.heap.size 42 [.int .i64 0,.slice none 0 0,.int .i64 0,.int .i64 0,.int .i64 0,.slice none 0 0]):=hV1▸Owb.new _ _ _
  have L1:Hid (A.heap.size≤V0.heap.size):=G0.out.size
  have Z1:Hid (V1.heap.size=V0.heap.size + 1):=by rw [Hid,← hV1]; simp
  rw [hV1]
  clear hV1
  refine hK.out _ _ (fun _=>G1.out) ?_
  clear hK K
  try simp only [Act.put,List.setIfInBounds_toArray,List.set_cons_zero,List.set_cons_succ]
  refine K.P.wpAnyJ_ready (rs:=[13,14]) (by kernel_rfl) (by simp) ?_
  refine K.P.AllJ.cons (o:={ dst := some 17, op := Op.alloc 56, type := 0, pos := "law.go:89", after := #[], guard := none }) rfl (fun K hK=>?_) (K.P.AllJ.cons (o:={ dst := some 18, op := Op.alloc 42, type := 0, pos := "law.go:89", after := #[], guard := none }) rfl (fun K hK=>?_) (K.P.AllJ.nil))
  ·go_simp
   obtain ⟨V2,hV2⟩:∃ V2,V1.alloc (.cells #[.int .i64 0,.int .i64 0,.string ⟨#[]⟩,.int .i64 0,.int .i64 0,.string ⟨#[]⟩,.int .i64 0,.string ⟨#[]⟩,.int .i64 0,.int .i64 0,.slice none 0 0,.slice none 0 0,.int .i64 0,.int .i64 0,.int .i64 0,.int .i64 0,.slice none 0 0,.int .i64 0] 56)=V2:=⟨_,rfl⟩
   have G2:Hid (Below A.heap.size A V2):=hV2▸bal G1.out _
   have N2:Hid (Owb V2 V1.heap.size 56 [.int .i64 0,.int .i64 0,.string ⟨#[]⟩,.int .i64 0,.int .i64 0,.string ⟨#[]⟩,.int .i64 0,.string ⟨#[]⟩,.int .i64 0,.int .i64 0,.slice none 0 0,.slice none 0 0,.int .i64 0,.int .i64 0,.int .i64 0,.int .i64 0,.slice none 0 0,.int .i64 0]):=hV2▸Owb.new _ _ _
   have M21:Hid (Owb V2 V0.heap.size 42 [.int .i64 0,.slice none 0 0,.int .i64 0,.int .i64 0,.int .i64 0,.slice none 0 0]):=hV2▸N1.out.alloc _
   have L2:Hid (A.heap.size≤V1.heap.size):=G1.out.size
   have Z2:Hid (V2.heap.size=V1.heap.size + 1):=by rw [Hid,← hV2]; simp
   rw [hV2]
   clear hV2
   refine hK.out _ _ (fun _=>G2.out) ?_
   clear hK K
   try simp only [Act.put,List.setIfInBounds_toArray,List.set_cons_zero,List.set_cons_succ]
   refine K.P.wpAnyJ_ready (rs:=[14]) (by kernel_rfl) (by simp) ?_
   refine K.P.AllJ.cons (o:={ dst := some 18, op := Op.alloc 42, type := 0, pos := "law.go:89", after := #[], guard := none }) rfl (fun K hK=>?_) (K.P.AllJ.nil)
   ·go_simp
    obtain ⟨V3,hV3⟩:∃ V3,V2.alloc (.cells #[.int .i64 0,.slice none 0 0,.int .i64 0,.int .i64 0,.int .i64 0,.slice none 0 0] 42)=V3:=⟨_,rfl⟩
    have G3:Hid (Below A.heap.size A V3):=hV3▸bal G2.out _
    have N3:Hid (Owb V3 V2.heap.size 42 [.int .i64 0,.slice none 0 0,.int .i64 0,.int .i64 0,.int .i64 0,.slice none 0 0]):=hV3▸Owb.new _ _ _
    have M31:Hid (Owb V3 V0.heap.size 42 [.int .i64 0,.slice none 0 0,.int .i64 0,.int .i64 0,.int .i64 0,.slice none 0 0]):=hV3▸M21.out.alloc _
    have M32:Hid (Owb V3 V1.heap.size 56 [.int .i64 0,.int .i64 0,.string ⟨#[]⟩,.int .i64 0,.int .i64 0,.string ⟨#[]⟩,.int .i64 0,.string ⟨#[]⟩,.int .i64 0,.int .i64 0,.slice none 0 0,.slice none 0 0,.int .i64 0,.int .i64 0,.int .i64 0,.int .i64 0,.slice none 0 0,.int .i64 0]):=hV3▸N2.out.alloc _
    have L3:Hid (A.heap.size≤V2.heap.size):=G2.out.size
    have Z3:Hid (V3.heap.size=V2.heap.size + 1):=by rw [Hid,← hV3]; simp
    rw [hV3]
    clear hV3
    refine hK.out _ _ (fun _=>G3.out) ?_
    clear hK K
    try simp only [Act.put,List.setIfInBounds_toArray,List.set_cons_zero,List.set_cons_succ]
    refine K.P.wpAnyJ_ready (rs:=[16]) (by kernel_rfl) (by simp) ?_
    refine K.P.AllJ.cons (o:={ dst := none, op := Op.store 56 (Operand.tmp 17) (Operand.tmp 74), type := 0, pos := "law.go:89", after := #[{ on := 13, ground := Ground.data }, { on := 3, ground := Ground.data }, { on := 0, ground := Ground.phase }, { on := 1, ground := Ground.phase }, { on := 2, ground := Ground.phase }, { on := 3, ground := Ground.phase }, { on := 4, ground := Ground.textOnly Departure.lateStores }, { on := 5, ground := Ground.textOnly Departure.lateStores }, { on := 6, ground := Ground.textOnly Departure.lateStores }, { on := 7, ground := Ground.textOnly Departure.lateStores }, { on := 8, ground := Ground.textOnly Departure.lateStores }, { on := 9, ground := Ground.textOnly Departure.lateStores }, { on := 10, ground := Ground.textOnly Departure.lateStores }, { on := 11, ground := Ground.textOnly Departure.lateStores }, { on := 12, ground := Ground.textOnly Departure.lateStores }, { on := 13, ground := Ground.phase }, { on := 14, ground := Ground.phase }, { on := 15, ground := Ground.phase }], guard := none }) rfl (fun K hK=>?_) K.P.AllJ.nil
    rw [if_pos (by rfl)]
    refine wp_store_row 56 _ _ rfl (V1.heap.size) (s.cs).toArray rfl rfl 56 _ M32.out infos56 rfl (all_oneCell_toArray s.one) ?_
    obtain ⟨U1,hU1⟩:∃ U1,V3.setRow (V1.heap.size) (s.cs).toArray=U1:=⟨_,rfl⟩
    have G30:Hid (Below A.heap.size A U1):=hU1▸below_row G3.out (by have:=L1.out; have:=L2.out; have:=L3.out; have:=Z1.out; have:=Z2.out; have:=Z3.out; omega) _
    have F013:Hid (Owb U1 (V1.heap.size) 56 s.cs):=hU1▸M32.out.set _
    have F014:Hid (Owb U1 (V2.heap.size) 42 [.int .i64 0,.slice none 0 0,.int .i64 0,.int .i64 0,.int .i64 0,.slice none 0 0]):=hU1▸N3.out.oth (by have:=L1.out; have:=L2.out; have:=L3.out; have:=Z1.out; have:=Z2.out; have:=Z3.out; omega) _
    have F015:Hid (Owb U1 (V0.heap.size) 42 [.int .i64 0,.slice none 0 0,.int .i64 0,.int .i64 0,.int .i64 0,.slice none 0 0]):=hU1▸M31.out.oth (by have:=L1.out; have:=L2.out; have:=L3.out; have:=Z1.out; have:=Z2.out; have:=Z3.out; omega) _
    rw [hU1]
    clear hU1
    refine hK.out _ _ (fun _=>G30.out) ?_
    clear hK K
    try simp only [Act.put]
    refine K.P.wpAnyJ_ready (rs:=[17]) (by kernel_rfl) (by simp) ?_
    refine K.P.AllJ.cons (o:={ dst := none, op := Op.store 42 (Operand.tmp 18) (Operand.tmp 78), type := 0, pos := "law.go:89", after := #[{ on := 14, ground := Ground.data }, { on := 7, ground := Ground.data }, { on := 16, ground := Ground.chain }, { on := 0, ground := Ground.phase }, { on := 1, ground := Ground.phase }, { on := 2, ground := Ground.phase }, { on := 3, ground := Ground.phase }, { on := 4, ground := Ground.phase }, { on := 5, ground := Ground.phase }, { on := 6, ground := Ground.phase }, { on := 7, ground := Ground.phase }, { on := 8, ground := Ground.textOnly Departure.lateStores }, { on := 9, ground := Ground.textOnly Departure.lateStores }, { on := 10, ground := Ground.textOnly Departure.lateStores }, { on := 11, ground := Ground.textOnly Departure.lateStores }, { on := 12, ground := Ground.textOnly Departure.lateStores }, { on := 13, ground := Ground.phase }, { on := 14, ground := Ground.phase }, { on := 15, ground := Ground.phase }, { on := 16, ground := Ground.phase }], guard := none }) rfl (fun K hK=>?_) K.P.AllJ.nil
    rw [if_pos (by rfl)]
    refine wp_store_row 42 _ _ rfl (V2.heap.size) ([x0,x1,x2,x3,x4,x5]).toArray rfl rfl 42 _ F014.out infos42' rfl (all_oneCell_toArray HX1.out) ?_
    obtain ⟨U2,hU2⟩:∃ U2,U1.setRow (V2.heap.size) ([x0,x1,x2,x3,x4,x5]).toArray=U2:=⟨_,rfl⟩
    have G301:Hid (Below A.heap.size A U2):=hU2▸below_row G30.out (by have:=L1.out; have:=L2.out; have:=L3.out; have:=Z1.out; have:=Z2.out; have:=Z3.out; omega) _
    have F113:Hid (Owb U2 (V1.heap.size) 56 s.cs):=hU2▸F013.out.oth (by have:=L1.out; have:=L2.out; have:=L3.out; have:=Z1.out; have:=Z2.out; have:=Z3.out; omega) _
    have F114:Hid (Owb U2 (V2.heap.size) 42 [x0,x1,x2,x3,x4,x5]):=hU2▸F014.out.set _
    have F115:Hid (Owb U2 (V0.heap.size) 42 [.int .i64 0,.slice none 0 0,.int .i64 0,.int .i64 0,.int .i64 0,.slice none 0 0]):=hU2▸F015.out.oth (by have:=L1.out; have:=L2.out; have:=L3.out; have:=Z1.out; have:=Z2.out; have:=Z3.out; omega) _
    rw [hU2]
    clear hU2
    refine hK.out _ _ (fun _=>G301.out) ?_
    clear hK K
    try simp only [Act.put]
    refine K.P.wpAnyJ_ready (rs:=[18]) (by kernel_rfl) (by simp) ?_
    refine K.P.AllJ.cons (o:={ dst := none, op := Op.store 42 (Operand.tmp 19) (Operand.tmp 83), type := 0, pos := "law.go:89", after := #[{ on := 15, ground := Ground.data }, { on := 12, ground := Ground.data }, { on := 17, ground := Ground.chain }, { on := 0, ground := Ground.phase }, { on := 1, ground := Ground.phase }, { on := 2, ground := Ground.phase }, { on := 3, ground := Ground.phase }, { on := 4, ground := Ground.phase }, { on := 5, ground := Ground.phase }, { on := 6, ground := Ground.phase }, { on := 7, ground := Ground.phase }, { on := 8, ground := Ground.phase }, { on := 9, ground := Ground.phase }, { on := 10, ground := Ground.phase }, { on := 11, ground := Ground.phase }, { on := 12, ground := Ground.phase }, { on := 13, ground := Ground.phase }, { on := 14, ground := Ground.phase }, { on := 15, ground := Ground.phase }, { on := 16, ground := Ground.phase }, { on := 17, ground := Ground.phase }], guard := none }) rfl (fun K hK=>?_) K.P.AllJ.nil
    rw [if_pos (by rfl)]
    refine wp_store_row 42 _ _ rfl (V0.heap.size) ([l0,l1,l2,l3,l4,l5]).toArray rfl rfl 42 _ F115.out infos42' rfl (all_oneCell_toArray HL1.out) ?_
    obtain ⟨U3,hU3⟩:∃ U3,U2.setRow (V0.heap.size) ([l0,l1,l2,l3,l4,l5]).toArray=U3:=⟨_,rfl⟩
    have G3012:Hid (Below A.heap.size A U3):=hU3▸below_row G301.out (by have:=L1.out; have:=L2.out; have:=L3.out; have:=Z1.out; have:=Z2.out; have:=Z3.out; omega) _
    have F213:Hid (Owb U3 (V1.heap.size) 56 s.cs):=hU3▸F113.out.oth (by have:=L1.out; have:=L2.out; have:=L3.out; have:=Z1.out; have:=Z2.out; have:=Z3.out; omega) _
    have F214:Hid (Owb U3 (V2.heap.size) 42 [x0,x1,x2,x3,x4,x5]):=hU3▸F114.out.oth (by have:=L1.out; have:=L2.out; have:=L3.out; have:=Z1.out; have:=Z2.out; have:=Z3.out; omega) _
    have F215:Hid (Owb U3 (V0.heap.size) 42 [l0,l1,l2,l3,l4,l5]):=hU3▸F115.out.set _
    rw [hU3]
    clear hU3
    refine hK.out _ _ (fun _=>G3012.out) ?_
    clear hK K
    try simp only [Act.put]
    exact K.P.wpAnyJ_done (by kernel_rfl) (HEND.out _ _ _ _ _ _ _ _ _ _ _ _ _ _ _ _ U3 G3012.out F213.out F214.out F215.out ⟨(by have:=L1.out; have:=L2.out; have:=L3.out; have:=Z1.out; have:=Z2.out; have:=Z3.out; omega),(by have:=L1.out; have:=L2.out; have:=L3.out; have:=Z1.out; have:=Z2.out; have:=Z3.out; omega),(by have:=L1.out; have:=L2.out; have:=L3.out; have:=Z1.out; have:=Z2.out; have:=Z3.out; omega)⟩) _
  ·go_simp
   obtain ⟨V2,hV2⟩:∃ V2,V1.alloc (.cells #[.int .i64 0,.slice none 0 0,.int .i64 0,.int .i64 0,.int .i64 0,.slice none 0 0] 42)=V2:=⟨_,rfl⟩
   have G2:Hid (Below A.heap.size A V2):=hV2▸bal G1.out _
   have N2:Hid (Owb V2 V1.heap.size 42 [.int .i64 0,.slice none 0 0,.int .i64 0,.int .i64 0,.int .i64 0,.slice none 0 0]):=hV2▸Owb.new _ _ _
   have M21:Hid (Owb V2 V0.heap.size 42 [.int .i64 0,.slice none 0 0,.int .i64 0,.int .i64 0,.int .i64 0,.slice none 0 0]):=hV2▸N1.out.alloc _
   have L2:Hid (A.heap.size≤V1.heap.size):=G1.out.size
   have Z2:Hid (V2.heap.size=V1.heap.size + 1):=by rw [Hid,← hV2]; simp
   rw [hV2]
   clear hV2
   refine hK.out _ _ (fun _=>G2.out) ?_
   clear hK K
   try simp only [Act.put,List.setIfInBounds_toArray,List.set_cons_zero,List.set_cons_succ]
   refine K.P.wpAnyJ_ready (rs:=[13]) (by kernel_rfl) (by simp) ?_
   refine K.P.AllJ.cons (o:={ dst := some 17, op := Op.alloc 56, type := 0, pos := "law.go:89", after := #[], guard := none }) rfl (fun K hK=>?_) (K.P.AllJ.nil)
   ·go_simp
    obtain ⟨V3,hV3⟩:∃ V3,V2.alloc (.cells #[.int .i64 0,.int .i64 0,.string ⟨#[]⟩,.int .i64 0,.int .i64 0,.string ⟨#[]⟩,.int .i64 0,.string ⟨#[]⟩,.int .i64 0,.int .i64 0,.slice none 0 0,.slice none 0 0,.int .i64 0,.int .i64 0,.int .i64 0,.int .i64 0,.slice none 0 0,.int .i64 0] 56)=V3:=⟨_,rfl⟩
    have G3:Hid (Below A.heap.size A V3):=hV3▸bal G2.out _
    have N3:Hid (Owb V3 V2.heap.size 56 [.int .i64 0,.int .i64 0,.string ⟨#[]⟩,.int .i64 0,.int .i64 0,.string ⟨#[]⟩,.int .i64 0,.string ⟨#[]⟩,.int .i64 0,.int .i64 0,.slice none 0 0,.slice none 0 0,.int .i64 0,.int .i64 0,.int .i64 0,.int .i64 0,.slice none 0 0,.int .i64 0]):=hV3▸Owb.new _ _ _
    have M31:Hid (Owb V3 V0.heap.size 42 [.int .i64 0,.slice none 0 0,.int .i64 0,.int .i64 0,.int .i64 0,.slice none 0 0]):=hV3▸M21.out.alloc _
    have M32:Hid (Owb V3 V1.heap.size 42 [.int .i64 0,.slice none 0 0,.int .i64 0,.int .i64 0,.int .i64 0,.slice none 0 0]):=hV3▸N2.out.alloc _
    have L3:Hid (A.heap.size≤V2.heap.size):=G2.out.size
    have Z3:Hid (V3.heap.size=V2.heap.size + 1):=by rw [Hid,← hV3]; simp
    rw [hV3]
    clear hV3
    refine hK.out _ _ (fun _=>G3.out) ?_
    clear hK K
    try simp only [Act.put,List.setIfInBounds_toArray,List.set_cons_zero,List.set_cons_succ]
    refine K.P.wpAnyJ_ready (rs:=[16]) (by kernel_rfl) (by simp) ?_
    refine K.P.AllJ.cons (o:={ dst := none, op := Op.store 56 (Operand.tmp 17) (Operand.tmp 74), type := 0, pos := "law.go:89", after := #[{ on := 13, ground := Ground.data }, { on := 3, ground := Ground.data }, { on := 0, ground := Ground.phase }, { on := 1, ground := Ground.phase }, { on := 2, ground := Ground.phase }, { on := 3, ground := Ground.phase }, { on := 4, ground := Ground.textOnly Departure.lateStores }, { on := 5, ground := Ground.textOnly Departure.lateStores }, { on := 6, ground := Ground.textOnly Departure.lateStores }, { on := 7, ground := Ground.textOnly Departure.lateStores }, { on := 8, ground := Ground.textOnly Departure.lateStores }, { on := 9, ground := Ground.textOnly Departure.lateStores }, { on := 10, ground := Ground.textOnly Departure.lateStores }, { on := 11, ground := Ground.textOnly Departure.lateStores }, { on := 12, ground := Ground.textOnly Departure.lateStores }, { on := 13, ground := Ground.phase }, { on := 14, ground := Ground.phase }, { on := 15, ground := Ground.phase }], guard := none }) rfl (fun K hK=>?_) K.P.AllJ.nil
    rw [if_pos (by rfl)]
    refine wp_store_row 56 _ _ rfl (V2.heap.size) (s.cs).toArray rfl rfl 56 _ N3.out infos56 rfl (all_oneCell_toArray s.one) ?_
    obtain ⟨U1,hU1⟩:∃ U1,V3.setRow (V2.heap.size) (s.cs).toArray=U1:=⟨_,rfl⟩
    have G30:Hid (Below A.heap.size A U1):=hU1▸below_row G3.out (by have:=L1.out; have:=L2.out; have:=L3.out; have:=Z1.out; have:=Z2.out; have:=Z3.out; omega) _
    have F013:Hid (Owb U1 (V2.heap.size) 56 s.cs):=hU1▸N3.out.set _
    have F014:Hid (Owb U1 (V1.heap.size) 42 [.int .i64 0,.slice none 0 0,.int .i64 0,.int .i64 0,.int .i64 0,.slice none 0 0]):=hU1▸M32.out.oth (by have:=L1.out; have:=L2.out; have:=L3.out; have:=Z1.out; have:=Z2.out; have:=Z3.out; omega) _
    have F015:Hid (Owb U1 (V0.heap.size) 42 [.int .i64 0,.slice none 0 0,.int .i64 0,.int .i64 0,.int .i64 0,.slice none 0 0]):=hU1▸M31.out.oth (by have:=L1.out; have:=L2.out; have:=L3.out; have:=Z1.out; have:=Z2.out; have:=Z3.out; omega) _
    rw [hU1]
    clear hU1
    refine hK.out _ _ (fun _=>G30.out) ?_
    clear hK K
    try simp only [Act.put]
    refine K.P.wpAnyJ_ready (rs:=[17]) (by kernel_rfl) (by simp) ?_
    refine K.P.AllJ.cons (o:={ dst := none, op := Op.store 42 (Operand.tmp 18) (Operand.tmp 78), type := 0, pos := "law.go:89", after := #[{ on := 14, ground := Ground.data }, { on := 7, ground := Ground.data }, { on := 16, ground := Ground.chain }, { on := 0, ground := Ground.phase }, { on := 1, ground := Ground.phase }, { on := 2, ground := Ground.phase }, { on := 3, ground := Ground.phase }, { on := 4, ground := Ground.phase }, { on := 5, ground := Ground.phase }, { on := 6, ground := Ground.phase }, { on := 7, ground := Ground.phase }, { on := 8, ground := Ground.textOnly Departure.lateStores }, { on := 9, ground := Ground.textOnly Departure.lateStores }, { on := 10, ground := Ground.textOnly Departure.lateStores }, { on := 11, ground := Ground.textOnly Departure.lateStores }, { on := 12, ground := Ground.textOnly Departure.lateStores }, { on := 13, ground := Ground.phase }, { on := 14, ground := Ground.phase }, { on := 15, ground := Ground.phase }, { on := 16, ground := Ground.phase }], guard := none }) rfl (fun K hK=>?_) K.P.AllJ.nil
    rw [if_pos (by rfl)]
    refine wp_store_row 42 _ _ rfl (V1.heap.size) ([x0,x1,x2,x3,x4,x5]).toArray rfl rfl 42 _ F014.out infos42' rfl (all_oneCell_toArray HX1.out) ?_
    obtain ⟨U2,hU2⟩:∃ U2,U1.setRow (V1.heap.size) ([x0,x1,x2,x3,x4,x5]).toArray=U2:=⟨_,rfl⟩
    have G301:Hid (Below A.heap.size A U2):=hU2▸below_row G30.out (by have:=L1.out; have:=L2.out; have:=L3.out; have:=Z1.out; have:=Z2.out; have:=Z3.out; omega) _
    have F113:Hid (Owb U2 (V2.heap.size) 56 s.cs):=hU2▸F013.out.oth (by have:=L1.out; have:=L2.out; have:=L3.out; have:=Z1.out; have:=Z2.out; have:=Z3.out; omega) _
    have F114:Hid (Owb U2 (V1.heap.size) 42 [x0,x1,x2,x3,x4,x5]):=hU2▸F014.out.set _
    have F115:Hid (Owb U2 (V0.heap.size) 42 [.int .i64 0,.slice none 0 0,.int .i64 0,.int .i64 0,.int .i64 0,.slice none 0 0]):=hU2▸F015.out.oth (by have:=L1.out; have:=L2.out; have:=L3.out; have:=Z1.out; have:=Z2.out; have:=Z3.out; omega) _
    rw [hU2]
    clear hU2
    refine hK.out _ _ (fun _=>G301.out) ?_
    clear hK K
    try simp only [Act.put]
    refine K.P.wpAnyJ_ready (rs:=[18]) (by kernel_rfl) (by simp) ?_
    refine K.P.AllJ.cons (o:={ dst := none, op := Op.store 42 (Operand.tmp 19) (Operand.tmp 83), type := 0, pos := "law.go:89", after := #[{ on := 15, ground := Ground.data }, { on := 12, ground := Ground.data }, { on := 17, ground := Ground.chain }, { on := 0, ground := Ground.phase }, { on := 1, ground := Ground.phase }, { on := 2, ground := Ground.phase }, { on := 3, ground := Ground.phase }, { on := 4, ground := Ground.phase }, { on := 5, ground := Ground.phase }, { on := 6, ground := Ground.phase }, { on := 7, ground := Ground.phase }, { on := 8, ground := Ground.phase }, { on := 9, ground := Ground.phase }, { on := 10, ground := Ground.phase }, { on := 11, ground := Ground.phase }, { on := 12, ground := Ground.phase }, { on := 13, ground := Ground.phase }, { on := 14, ground := Ground.phase }, { on := 15, ground := Ground.phase }, { on := 16, ground := Ground.phase }, { on := 17, ground := Ground.phase }], guard := none }) rfl (fun K hK=>?_) K.P.AllJ.nil
    rw [if_pos (by rfl)]
    refine wp_store_row 42 _ _ rfl (V0.heap.size) ([l0,l1,l2,l3,l4,l5]).toArray rfl rfl 42 _ F115.out infos42' rfl (all_oneCell_toArray HL1.out) ?_
    obtain ⟨U3,hU3⟩:∃ U3,U2.setRow (V0.heap.size) ([l0,l1,l2,l3,l4,l5]).toArray=U3:=⟨_,rfl⟩
    have G3012:Hid (Below A.heap.size A U3):=hU3▸below_row G301.out (by have:=L1.out; have:=L2.out; have:=L3.out; have:=Z1.out; have:=Z2.out; have:=Z3.out; omega) _
    have F213:Hid (Owb U3 (V2.heap.size) 56 s.cs):=hU3▸F113.out.oth (by have:=L1.out; have:=L2.out; have:=L3.out; have:=Z1.out; have:=Z2.out; have:=Z3.out; omega) _
    have F214:Hid (Owb U3 (V1.heap.size) 42 [x0,x1,x2,x3,x4,x5]):=hU3▸F114.out.oth (by have:=L1.out; have:=L2.out; have:=L3.out; have:=Z1.out; have:=Z2.out; have:=Z3.out; omega) _
    have F215:Hid (Owb U3 (V0.heap.size) 42 [l0,l1,l2,l3,l4,l5]):=hU3▸F115.out.set _
    rw [hU3]
    clear hU3
    refine hK.out _ _ (fun _=>G3012.out) ?_
    clear hK K
    try simp only [Act.put]
    exact K.P.wpAnyJ_done (by kernel_rfl) (HEND.out _ _ _ _ _ _ _ _ _ _ _ _ _ _ _ _ U3 G3012.out F213.out F214.out F215.out ⟨(by have:=L1.out; have:=L2.out; have:=L3.out; have:=Z1.out; have:=Z2.out; have:=Z3.out; omega),(by have:=L1.out; have:=L2.out; have:=L3.out; have:=Z1.out; have:=Z2.out; have:=Z3.out; omega),(by have:=L1.out; have:=L2.out; have:=L3.out; have:=Z1.out; have:=Z2.out; have:=Z3.out; omega)⟩) _
end Go.Proofs.YtpmioeamdhdokaaGreat
