import Derived.Test.YtkolmadahacoeaaGreatQq22
import Derived.Test.YtkolmadahacoeaaGreatQq23
import Derived.RangeFuncBox
import Derived.Laws.EntriesVeiled
import Derived.Deep.RegionHeld3
import Derived.RegionDies
namespace Go.Proofs.YtkolmadahacoeaaGreat.K
open Go.RowKit Go.Proofs.YtkolmadahacoeaaGreat.K.Ds
theorem Boxed.at {w w' : World} {b : Nat} {t : TypeId} {v : Value} (h : Boxed w b t v) (hb : Below w.heap.size w w') : Boxed w' b t v := (hb.block b h.lt).trans h
def Tcl (w : World) (V : Value) (e : Nat × Int × Int) : Prop :=
 ∃ h i p, V = .func (.func 177) #[] #[.pointer (some ⟨h, 0, none⟩), .pointer (some ⟨i, 0, none⟩)] ∧ Boxed w h 196 (holV e.2.1 p) ∧ Boxed w i 3 (.int .i64 (e.1 : Int)) ∧ Boxed w p 3 (.int .i64 e.2.2)
theorem Tcl.at {w w' : World} {V : Value} {e : Nat × Int × Int} (h : Tcl w V e) (hb : Below w.heap.size w w') : Tcl w' V e := by
 obtain ⟨h, i, p, e, h1, h2, h3⟩ := h
 exact ⟨h, i, p, e, Boxed.at h1 hb, Boxed.at h2 hb, Boxed.at h3 hb⟩
def Tcs (w : World) (lo : Nat) (v : Value) (es : List (Value × Nat × Int × Int)) : Prop :=
 w.ownsRow lo 211 1 v es.length (es.map (·.1)) ∧ ∀ e ∈ es, Tcl w e.1 e.2
theorem Tcs.at {w w' : World} {lo : Nat} {v : Value} {es : List (Value × Nat × Int × Int)} (h : Tcs w lo v es) (hb : Below w.heap.size w w') : Tcs w' lo v es :=
 ⟨owns_below h.1 hb, fun e he => (h.2 e he).at hb⟩
theorem Tcl.grow {w w' : World} {V v : Value} {e : Nat × Int × Int} {lo n : Nat} {xs : List Value} (h : Tcl w V e) (hr : w.ownsRow lo 211 1 v n xs) (hg : w.grownBy w' v.ownBlock) : Tcl w' V e := by
 obtain ⟨h, i, p, e, h1, h2, h3⟩ := h
 exact ⟨h, i, p, e, h1.kept hg (h1.not_row (by decide) hr), h2.kept hg (h2.not_row (by decide) hr), h3.kept hg (h3.not_row (by decide) hr)⟩
theorem Tcl.setb {w : World} {V u v : Value} {e : Nat × Int × Int} {A : Nat} (h : Tcl w V e) (hA : Boxed w A 237 u) : Tcl (w.setCell ⟨A, 0, none⟩ v) V e := by
 have ne : ∀ {b : Nat} {t : TypeId} {x : Value}, Boxed w b t x → t ≠ 237 → some b ≠ some A := by
  intro b t x hb ht e
  simp only [Option.some.injEq] at e
  subst e
  have := (show w.heap[b]? = _ from hb).symm.trans (show w.heap[b]? = _ from hA)
  simp at this
  exact ht this.2
 obtain ⟨h, i, p, e, h1, h2, h3⟩ := h
 exact ⟨h, i, p, e, h1.kept (grownBy_setCell' _ _ _) (ne h1 (by decide)), h2.kept (grownBy_setCell' _ _ _) (ne h2 (by decide)), h3.kept (grownBy_setCell' _ _ _) (ne h3 (by decide))⟩
def trp (l : List Col) (t : Tst) : Nat × Int × Int := ((fnd l t.1).getD 0, t.2.1, t.2.2)
def PasP (w : World) (ps : List (Nat × Int × Int)) (er : Int) (e : Ending) (w' : World) : Prop :=
 Below w.heap.size w w' ∧ ((er = 0 ∧ ∃ A sv es, w.heap.size ≤ A ∧ e = .returned (.func (.func 178) #[] #[.pointer (some ⟨A, 0, none⟩)]) ∧ Boxed w' A 237 sv ∧ Tcs w' w.heap.size sv es ∧ es.map (·.2) = ps) ∨ (er ≠ 0 ∧ e = .panicked (chn er)))
theorem info94 : (Tryz.prog.info? 211).map (fun i => (i.zero, i.size, i.bytes)) = some (some .nilFunc, 1, 8) := by kernel_rfl
set_option maxHeartbeats 4000000 in
set_option maxRecDepth 100000 in
theorem passing_any (B : Nat) (lv v : Value) (l : List Col) (wh : List Tst) (w : World) (hB : B ≤ w.heap.size) (hp : Cols w B lv l) (hq : Tss w B v wh) (er : Int) (hr : whE l wh = er) :
  Calls Tryz.prog 153 #[lv, v] w fun e w' => PasP w (wh.map (trp l)) er e w' := by
 have HP : Hid (Cols w B lv l) := hp
 have HQ : Hid (Tss w B v wh) := hq
 have HR : Hid (whE l wh = er) := hr
 obtain ⟨a, c, rfl, hc, hl⟩ := hq.slice
 obtain ⟨a', c', rfl, hc', hl'⟩ := hp.slice
 obtain ⟨i0, hi0, hz0, hz1, hz2⟩ := info_parts info94
 have hmf := hmf
 clear hr
 go_enter Tryz.func153, Tryz.ntmps153
 by_cases h64 : 64 < wh.length
 ·obtain rfl : 4 = er := by rw [← HR.out, whE, if_pos h64]
  have hle : ¬ (wh.length : Int) ≤ 64 := by omega
  go_wp2_with fail
  refine (must_no 4 w).mono ?_
  rintro e w2 ⟨rfl, rfl⟩
  go_wp2
  exact ⟨rfl, Below.refl _ _, .inr ⟨by decide, rfl⟩⟩
 have HR2 : Hid (tsE l wh = er) := by have := HR.out; rwa [whE, if_neg h64] at this
 have hle : (wh.length : Int) ≤ 64 := by omega
 go_wp2_with fail
 refine (must_ok 4 w).mono ?_
 rintro e w2 ⟨rfl, rfl⟩
 go_wp2
 go_loopw [16] (fun s wr => ∃ (i : Nat), s = .int .i64 (i : Int) ∧ i ≤ wh.length ∧ Hid (tsE l (wh.drop i) = er) ∧ Below w2.heap.size w2 wr ∧
  ∃ sv es, Boxed wr w2.heap.size 237 sv ∧ Tcs wr w2.heap.size sv es ∧ es.map (·.2) = (wh.take i).map (trp l)) (fun s _ => wh.length - (intOf s).toNat)
 case atStart => exact ⟨0, rfl, Nat.zero_le _, by simpa [Hid] using HR2.out, ba _ _, .slice none 0 0, [], Boxed.new _ _ _, ⟨⟨rfl, .inl ⟨rfl, rfl⟩⟩, fun e he => by cases he⟩, by simp⟩
 case round =>
  obtain ⟨i, rfl, hi, HI, hbl, sv, es, hbx, hts, hes⟩ := hrel
  have HBX : Hid (Boxed wr w2.heap.size 237 sv) := hbx
  have HT : Hid (Tcs wr w2.heap.size sv es) := hts
  have HES : Hid (es.map (·.2) = (wh.take i).map (trp l)) := hes
  have hsz := hbl.size
  clear hbx hes
  obtain ⟨sa, sc, rfl⟩ := owns_slice hts.1
  clear hts
  by_cases h1 : i < wh.length
  ·obtain ⟨b, o, nm, d, z, rfl, hb, hgt, c1, c2, c3, hn⟩ := HQ.out.get hB hbl h1
   have HG : Hid (wh[i]? = some (nm, d, z)) := hgt
   have HST : Hid (tsE l (wh.drop i) = if (fnd l nm).isSome then (if doB d then tsE l (wh.drop (i + 1)) else 1) else 7) := tsE_step hgt
   have kcol : Cols (wr.alloc (.cells #[.string nm, .int .i64 d, .int .i64 z] 214)) B (.slice a' l.length c') l := (HP.out.at hB hbl).at (by omega) (ba _ _)
   clear hgt
   cases hf : fnd l nm with
   | none =>
    obtain rfl : 7 = er := by rw [← HI.out, HST.out, hf]; rfl
    have k1 := find_no B _ l nm _ (by simp; omega) kcol hf
    clear hf kcol
    go_wp2_with fail
    refine k1.mono ?_
    rintro e w3 ⟨rfl, hb3⟩
    go_wp2
    exact ⟨rfl, bt (bal hbl _) hb3, .inr ⟨by decide, rfl⟩⟩
   | some p =>
    have k1 := find_ok B _ l nm _ (by simp; omega) kcol p hf
    have HF : Hid (fnd l nm = some p) := hf
    clear hf kcol
    go_wp2_with fail
    refine k1.mono ?_
    rintro e w3 ⟨rfl, hb3⟩
    clear k1
    have e0 : Cl w3 wr.heap.size 0 (.string nm) := (Cl.new (w := wr) #[.string nm, .int .i64 d, .int .i64 z] 214 0 _ rfl rfl).at hb3
    have e1 : Cl w3 wr.heap.size 1 (.int .i64 d) := (Cl.new (w := wr) #[.string nm, .int .i64 d, .int .i64 z] 214 1 _ rfl rfl).at hb3
    have e2 : Cl w3 wr.heap.size 2 (.int .i64 z) := (Cl.new (w := wr) #[.string nm, .int .i64 d, .int .i64 z] 214 2 _ rfl rfl).at hb3
    have hb3' : Below wr.heap.size wr w3 := bt (ba _ _) hb3
    have t1 := (e1.at (ba w3 (.cells #[.int .i64 (p : Int)] 3))).c
    have t2 := (e2.at (ba w3 (.cells #[.int .i64 (p : Int)] 3))).c
    cases hd : doB d with
    | false =>
     obtain rfl : 1 = er := by rw [← HI.out, HST.out, HF.out, hd]; rfl
     have k2 := hold_no d z (w3.alloc (.cells #[.int .i64 (p : Int)] 3)) hd
     clear hd
     go_wp2_with fail
     refine k2.mono ?_
     rintro e w4 ⟨rfl, hb4⟩
     go_wp2
     exact ⟨rfl, bt (bt hbl (bt hb3' (ba _ _))) hb4, .inr ⟨by decide, rfl⟩⟩
    | true =>
     have k2 := hold_ok d z (w3.alloc (.cells #[.int .i64 (p : Int)] 3)) hd
     have HI2 : Hid (tsE l (wh.drop (i + 1)) = er) := by have := HI.out; rwa [HST.out, HF.out, hd] at this
     clear hd
     go_wp2_with fail
     refine k2.mono ?_
     rintro e w4 ⟨rfl, hw4⟩
     have es1 : (w3.alloc (.cells #[.int .i64 (p : Int)] 3)).heap.size = w3.heap.size + 1 := by simp
     rw [es1]
     have hs4 : Hid (w4.heap.size = w3.heap.size + 2) := by show _ = _; rw [hw4]; simp
     have X1 : Boxed w4 w3.heap.size 3 (.int .i64 (p : Int)) := by rw [hw4]; exact (Boxed.new w3 3 _).alloc _
     have X2 : Boxed w4 (w3.heap.size + 1) 3 (.int .i64 z) := by rw [hw4]; have := Boxed.new (w3.alloc (.cells #[.int .i64 (p : Int)] 3)) 3 (.int .i64 z); rwa [es1] at this
     have hb34 : Below w3.heap.size w3 w4 := by rw [hw4]; exact bal (ba _ _) _
     have hb4 : Below wr.heap.size wr w4 := bt hb3' hb34
     clear hw4 k2 t1 t2 e0 e1 e2 hb3 hb34 es1
     obtain ⟨W5, hW5⟩ : ∃ W5, w4.alloc (.cells #[holV d (w3.heap.size + 1)] 196) = W5 := ⟨_, rfl⟩
     have hb5 : Below wr.heap.size wr W5 := by rw [← hW5]; exact bal hb4 _
     have hs5 : Hid (W5.heap.size = w4.heap.size + 1) := by show _ = _; rw [← hW5]; simp
     have Y1 := Boxed.at X1 (by rw [← hW5]; exact ba _ _ : Below w4.heap.size w4 W5)
     have Y2 := Boxed.at X2 (by rw [← hW5]; exact ba _ _ : Below w4.heap.size w4 W5)
     have Y3 : Boxed W5 w4.heap.size 196 (holV d (w3.heap.size + 1)) := by rw [← hW5]; exact Boxed.new w4 196 _
     have YA : Boxed W5 w2.heap.size 237 (.slice sa es.length sc) := Boxed.at HBX.out hb5
     have YT : Tcs W5 w2.heap.size (.slice sa es.length sc) es := HT.out.at hb5
     have tA := YA.cell
     have HY : Hid (Boxed W5 w3.heap.size 3 (.int .i64 (p : Int)) ∧ Boxed W5 (w3.heap.size + 1) 3 (.int .i64 z) ∧ Boxed W5 w4.heap.size 196 (holV d (w3.heap.size + 1)) ∧ Boxed W5 w2.heap.size 237 (.slice sa es.length sc) ∧ Tcs W5 w2.heap.size (.slice sa es.length sc) es) := ⟨Y1, Y2, Y3, YA, YT⟩
     clear Y1 Y2 Y3 X1 X2 YA YT
     have HW5 : Hid (w4.alloc (.cells #[holV d (w3.heap.size + 1)] 196) = W5) := hW5
     have tA2 : (w4.alloc (.cells #[holV d (w3.heap.size + 1)] 196)).cell? ⟨w2.heap.size, 0, none⟩ = some (.slice sa es.length sc) := by rw [hW5]; exact tA
     have HO : Hid (((w4.alloc (.cells #[holV d (w3.heap.size + 1)] 196)).alloc (.cells #[.func (.func 177) #[] #[.pointer (some ⟨w4.heap.size, 0, none⟩), .pointer (some ⟨w3.heap.size, 0, none⟩)]] 211)).ownsRow w2.heap.size 211 1 (.slice sa es.length sc) es.length (es.map (·.1))) := by
      show World.ownsRow _ _ _ _ _ _ _; rw [hW5]; exact owns_below HY.out.2.2.2.2.1 (ba _ _)
     have hlen : Hid (es.length ≤ 64) := by have := congrArg List.length HES.out; simp at this; show _ ≤ _; omega
     have hsA : Hid (w2.heap.size ≤ w4.heap.size) := by show _ ≤ _; exact Nat.le_trans hsz hb4.size
     clear hW5 tA
     simp only [holV] at tA2 HO ⊢
     go_wp2_with (at_builtin; refine wpList_append_own _ rfl _ _ 237 rfl w2.heap.size 211 i0 .nilFunc 1 8 Tryz.underlying237 hi0 hz0 hz1 hz2 rfl (by decide) _ _ _ rfl HO.out ⟨w4.heap.size + 1, 0, none⟩ 1 1 [.func (.func 177) #[] #[.pointer (some ⟨w4.heap.size, 0, none⟩), .pointer (some ⟨w3.heap.size, 0, none⟩)]] rfl ?q1 ?q2 ?q3 ?q4 ?q5 ?q6 ?_)
     case q1 => rfl
     case q2 =>
      intro j u hj
      match j, hj with
      | 0, hj => simp at hj; subst hj; simp [go_sem, Addr.add]
     case q3 => intro u hu; simp at hu; subst hu; rfl
     case q4 => have := hlen.out; simp [maxLen]; omega
     case q5 => have := hlen.out; omega
     case q6 => have := hsA.out; simp; omega
     intro v6 w6 hown6 hgrow hnil
     rw [show (w4.alloc (.cells #[.func (.func (195 + d.toNat)) #[] #[.pointer (some ⟨w3.heap.size + 1, 0, none⟩)]] 196)) = W5 from HW5.out] at hgrow
     obtain ⟨Z1, Z2, Z3, _, Z5⟩ := Boxed.appended HY.out.2.2.2.1 (by decide) HY.out.2.2.2.2.1 (Nat.le_trans hsz hb5.size) (Nat.le_refl _) hown6 hgrow
     obtain ⟨va, vc, rfl⟩ := owns_slice hown6
     have ZC : Hid (Tcs (w6.setCell ⟨w2.heap.size, 0, none⟩ (.slice va (es.length + 1) vc)) w2.heap.size (.slice va (es.length + 1) vc) (es ++ [(.func (.func 177) #[] #[.pointer (some ⟨w4.heap.size, 0, none⟩), .pointer (some ⟨w3.heap.size, 0, none⟩)], (p, d, z))])) := by
      have key : ∀ V e, Tcl W5 V e → Tcl (w6.setCell ⟨w2.heap.size, 0, none⟩ (.slice va (es.length + 1) vc)) V e := fun V e he =>
       ((he.at (ba _ _)).grow (owns_below HY.out.2.2.2.2.1 (ba _ _)) hgrow).setb Z1
      refine ⟨by simpa using Z3, fun e he => ?_⟩
      rcases List.mem_append.1 he with he | he
      ·exact key _ _ (HY.out.2.2.2.2.2 e he)
      ·obtain rfl := List.mem_singleton.1 he
       exact key _ _ ⟨_, _, _, rfl, HY.out.2.2.1, HY.out.1, HY.out.2.1⟩
     have ZE : Hid ((es ++ [((.func (.func 177) #[] #[.pointer (some ⟨w4.heap.size, 0, none⟩), .pointer (some ⟨w3.heap.size, 0, none⟩)] : Value), (p, d, z))]).map (·.2) = (wh.take (i + 1)).map (trp l)) := by
      show _ = _
      rw [List.map_append, HES.out, List.take_add_one, HG.out, List.map_append]
      simp [trp, HF.out]
     have hbz : Below w2.heap.size w2 (w6.setCell ⟨w2.heap.size, 0, none⟩ (.slice va (es.length + 1) vc)) := (bt hbl hb5).trans Z5
     have ZB : Hid (Boxed (w6.setCell ⟨w2.heap.size, 0, none⟩ (.slice va (es.length + 1) vc)) w2.heap.size 237 (.slice va (es.length + 1) vc)) := Z2
     have z1 := Z1.cell
     have z2 := Z1.frozen
     clear Z1 Z2 Z3 Z5 hgrow hown6 hnil tA2 HO
     go_wp2
     go_roundw
     case rel => exact ⟨i + 1, by go_num, h1, HI2, hbz, _, _, ZB.out, ZC.out, ZE.out⟩
     case measure => simp [intOf]; omega
  ·obtain rfl : 0 = er := by have := HI.out; rw [List.drop_of_length_le (by omega)] at this; exact this
   have HES2 : Hid (es.map (·.2) = wh.map (trp l)) := by have := HES.out; rwa [List.take_of_length_le (by omega)] at this
   go_wp2
   go_ret
   exact ⟨hbl, .inl ⟨rfl, _, _, es, Nat.le_refl _, rfl, HBX.out, HT.out, HES2.out⟩⟩
def endB : Except Int Bnd → Ending
 | .error e => .panicked (chn e)
 | .ok b => .returned (.agg #[.int .i64 b.1, .int .i64 b.2.1, .int .i64 b.2.2])
structure Rk (W : World) (N : Nat) (k : Int) (c : ByteArray) (lo hi : Int) (wv kv : Value) (x1 x2 x3 y1 y2 y3 : Int) : Prop where
 a0 : Cl W N 0 (.int .i64 k)
 a1 : Cl W N 1 (.string c)
 a2 : Cl W N 2 (.int .i64 lo)
 a3 : Cl W N 3 (.int .i64 hi)
 a4 : Cl W N 4 wv
 a5 : Cl W N 5 kv
 b0 : Cl W (N + 1) 0 (.int .i64 x1)
 b1 : Cl W (N + 1) 1 (.int .i64 x2)
 b2 : Cl W (N + 1) 2 (.int .i64 x3)
 d0 : Cl W (N + 1 + 1) 0 (.int .i64 y1)
 d1 : Cl W (N + 1 + 1) 1 (.int .i64 y2)
 d2 : Cl W (N + 1 + 1) 2 (.int .i64 y3)
 e0 : Cl W (N + 1 + 1 + 1) 0 (.int .i64 0)
 e1 : Cl W (N + 1 + 1 + 1) 1 (.int .i64 0)
 e2 : Cl W (N + 1 + 1 + 1) 2 (.int .i64 0)
theorem Rk.at {W W' : World} {N : Nat} {k : Int} {c : ByteArray} {lo hi : Int} {wv kv : Value} {x1 x2 x3 y1 y2 y3 : Int} (h : Rk W N k c lo hi wv kv x1 x2 x3 y1 y2 y3) (hb : Below W.heap.size W W') : Rk W' N k c lo hi wv kv x1 x2 x3 y1 y2 y3 :=
 ⟨h.a0.at hb, h.a1.at hb, h.a2.at hb, h.a3.at hb, h.a4.at hb, h.a5.at hb, h.b0.at hb, h.b1.at hb, h.b2.at hb, h.d0.at hb, h.d1.at hb, h.d2.at hb, h.e0.at hb, h.e1.at hb, h.e2.at hb⟩
theorem Rk.new (w : World) (k : Int) (c : ByteArray) (lo hi : Int) (wv kv : Value) (x1 x2 x3 y1 y2 y3 : Int) :
  Rk ((((w.alloc (.cells #[.int .i64 k, .string c, .int .i64 lo, .int .i64 hi, wv, kv] 65)).alloc (.cells #[.int .i64 x1, .int .i64 x2, .int .i64 x3] 105)).alloc (.cells #[.int .i64 y1, .int .i64 y2, .int .i64 y3] 105)).alloc (.cells #[.int .i64 0, .int .i64 0, .int .i64 0] 105)) w.heap.size k c lo hi wv kv x1 x2 x3 y1 y2 y3 := by
 constructor
 all_goals first
  | exact (((Cl.new _ 65 _ _ rfl rfl).at (ba _ _)).at (ba _ _)).at (ba _ _)
  | exact ((Cl.new _ 105 _ _ (by simp) rfl).at (ba _ _)).at (ba _ _)
  | exact (Cl.new _ 105 _ _ (by simp) rfl).at (ba _ _)
  | exact Cl.new _ 105 _ _ (by simp) rfl
abbrev RkC (w : World) (lv : Value) (k : Int) (c : ByteArray) (lo hi : Int) (wv kv : Value) (x1 x2 x3 y1 y2 y3 : Int) (r : Except Int Bnd) : Prop :=
 Calls Tryz.prog 110 #[lv, .agg #[.int .i64 k, .string c, .int .i64 lo, .int .i64 hi, wv, kv], .agg #[.int .i64 x1, .int .i64 x2, .int .i64 x3], .agg #[.int .i64 y1, .int .i64 y2, .int .i64 y3]] w fun e w' => e = endB r ∧ Below w.heap.size w w'
theorem b4 (w : World) (o1 o2 o3 o4 : Obj) : Below w.heap.size w ((((w.alloc o1).alloc o2).alloc o3).alloc o4) := bal (bal (bal (ba _ _) _) _) _
theorem b3s {w W : World} (h : Below w.heap.size w W) (u0 u1 u2 : Value) : Below w.heap.size w (((W.setCell ⟨w.heap.size + 1 + 1 + 1, 0, none⟩ u0).setCell ⟨w.heap.size + 1 + 1 + 1, 1, none⟩ u1).setCell ⟨w.heap.size + 1 + 1 + 1, 2, none⟩ u2) :=
 bs (bs (bs h (by dsimp only; omega) _) (by dsimp only; omega) _) (by dsimp only; omega) _
set_option maxHeartbeats 1000000 in
set_option maxRecDepth 100000 in
theorem rck7_any (lv : Value) (c : ByteArray) (lo hi : Int) (wv kv : Value) (x1 x2 x3 y1 y2 y3 : Int) (hx : BOk (x1, x2, x3)) (hy : BOk (y1, y2, y3)) (w : World) : RkC w lv 7 c lo hi wv kv x1 x2 x3 y1 y2 y3 (.ok (x1 + y1, x2 + y2, mx x3 y3)) := by
 obtain ⟨p1, p2, p3, p4, p5, p6⟩ := hx
 obtain ⟨q1, q2, q3, q4, q5, q6⟩ := hy
 simp only at p1 p2 p3 p4 p5 p6 q1 q2 q3 q4 q5 q6
 go_enter Tryz.func110, Tryz.ntmps110
 go_wp2
 ·exact bodyPost_ret (v := .agg #[.int .i64 (x1 + y1), .int .i64 (x2 + y2), .int .i64 (y3)]) (by simp [results, Tryz.results110, go_sem]) rfl ⟨by rw [show mx x3 y3 = y3 by unfold mx; split <;> omega]; rfl, b4 _ _ _ _ _⟩
 ·exact bodyPost_ret (v := .agg #[.int .i64 (x1 + y1), .int .i64 (x2 + y2), .int .i64 (x3)]) (by simp [results, Tryz.results110, go_sem]) rfl ⟨by rw [show mx x3 y3 = x3 by unfold mx; split <;> omega]; rfl, b4 _ _ _ _ _⟩
set_option maxHeartbeats 1000000 in
set_option maxRecDepth 100000 in
theorem rck8_any (lv : Value) (c : ByteArray) (lo hi : Int) (wv kv : Value) (x1 x2 x3 y1 y2 y3 : Int) (hx : BOk (x1, x2, x3)) (hy : BOk (y1, y2, y3)) (w : World) : RkC w lv 8 c lo hi wv kv x1 x2 x3 y1 y2 y3 (.ok (1, x2, x1 * x3)) := by
 obtain ⟨p1, p2, p3, p4, p5, p6⟩ := hx
 obtain ⟨q1, q2, q3, q4, q5, q6⟩ := hy
 simp only at p1 p2 p3 p4 p5 p6 q1 q2 q3 q4 q5 q6
 have hm := mul_bd p1 p2 p5 p6
 have hw : wrap64 (x1 * x3) = x1 * x3 := wrap_id (by omega)
 go_enter Tryz.func110, Tryz.ntmps110
 go_wp2
 exact bodyPost_ret (v := .agg #[.int .i64 (1), .int .i64 (x2), .int .i64 (x1 * x3)]) (by simp [results, Tryz.results110, go_sem]) rfl ⟨rfl, b4 _ _ _ _ _⟩
set_option maxHeartbeats 1000000 in
set_option maxRecDepth 100000 in
theorem rck4_any (lv : Value) (c : ByteArray) (lo hi : Int) (wv kv : Value) (x1 x2 x3 y1 y2 y3 : Int) (hx : BOk (x1, x2, x3)) (hy : BOk (y1, y2, y3)) (w : World) : RkC w lv 4 c lo hi wv kv x1 x2 x3 y1 y2 y3 (if x1 = y1 then .ok (x1, x2 + y2, x3 + y3) else .error 8) := by
 obtain ⟨p1, p2, p3, p4, p5, p6⟩ := hx
 obtain ⟨q1, q2, q3, q4, q5, q6⟩ := hy
 simp only at p1 p2 p3 p4 p5 p6 q1 q2 q3 q4 q5 q6
 go_enter Tryz.func110, Tryz.ntmps110
 by_cases h : x1 = y1
 ·rw [if_pos h]
  subst h
  go_wp2_with fail
  refine (must_ok 8 _).mono ?_
  rintro e w2 ⟨rfl, rfl⟩
  go_wp2
  exact bodyPost_ret (v := .agg #[.int .i64 (x1), .int .i64 (x2 + y2), .int .i64 (x3 + y3)]) (by simp [results, Tryz.results110, go_sem]) rfl ⟨rfl, b4 _ _ _ _ _⟩
 ·rw [if_neg h]
  have hq : (x1 == y1) = false := by simpa using h
  go_wp2_with fail
  refine (must_no 8 _).mono ?_
  rintro e w2 ⟨rfl, rfl⟩
  go_wp2
  exact ⟨rfl, rfl, b4 _ _ _ _ _⟩
set_option maxHeartbeats 1000000 in
set_option maxRecDepth 100000 in
theorem rck5_any (lv : Value) (c : ByteArray) (lo hi : Int) (wv kv : Value) (x1 x2 x3 y1 y2 y3 : Int) (hx : BOk (x1, x2, x3)) (hy : BOk (y1, y2, y3)) (w : World) : RkC w lv 5 c lo hi wv kv x1 x2 x3 y1 y2 y3 (if x1 = y1 then .ok (x1, x2 + y2, x3 + y3) else .error 8) := by
 obtain ⟨p1, p2, p3, p4, p5, p6⟩ := hx
 obtain ⟨q1, q2, q3, q4, q5, q6⟩ := hy
 simp only at p1 p2 p3 p4 p5 p6 q1 q2 q3 q4 q5 q6
 go_enter Tryz.func110, Tryz.ntmps110
 by_cases h : x1 = y1
 ·rw [if_pos h]
  subst h
  go_wp2_with fail
  refine (must_ok 8 _).mono ?_
  rintro e w2 ⟨rfl, rfl⟩
  go_wp2
  exact bodyPost_ret (v := .agg #[.int .i64 (x1), .int .i64 (x2 + y2), .int .i64 (x3 + y3)]) (by simp [results, Tryz.results110, go_sem]) rfl ⟨rfl, b4 _ _ _ _ _⟩
 ·rw [if_neg h]
  have hq : (x1 == y1) = false := by simpa using h
  go_wp2_with fail
  refine (must_no 8 _).mono ?_
  rintro e w2 ⟨rfl, rfl⟩
  go_wp2
  exact ⟨rfl, rfl, b4 _ _ _ _ _⟩
set_option maxHeartbeats 1000000 in
set_option maxRecDepth 100000 in
theorem rck9_any (lv : Value) (c : ByteArray) (lo hi : Int) (wv kv : Value) (x1 x2 x3 y1 y2 y3 : Int) (hx : BOk (x1, x2, x3)) (hy : BOk (y1, y2, y3)) (w : World) : RkC w lv 9 c lo hi wv kv x1 x2 x3 y1 y2 y3 (if 0 ≤ lo ∧ lo < x1 then .ok (1, x2, x3) else .error 3) := by
 obtain ⟨p1, p2, p3, p4, p5, p6⟩ := hx
 obtain ⟨q1, q2, q3, q4, q5, q6⟩ := hy
 simp only at p1 p2 p3 p4 p5 p6 q1 q2 q3 q4 q5 q6
 go_enter Tryz.func110, Tryz.ntmps110
 by_cases h : 0 ≤ lo ∧ lo < x1
 ·rw [if_pos h]
  obtain ⟨h1, h2⟩ := h
  go_wp2_with fail
  refine (must_ok 3 _).mono ?_
  rintro e w2 ⟨rfl, rfl⟩
  go_wp2
  exact bodyPost_ret (v := .agg #[.int .i64 (1), .int .i64 (x2), .int .i64 (x3)]) (by simp [results, Tryz.results110, go_sem]) rfl ⟨rfl, b4 _ _ _ _ _⟩
 ·rw [if_neg h]
  by_cases h1 : 0 ≤ lo
  ·have h2 : ¬ lo < x1 := fun h2 => h ⟨h1, h2⟩
   go_wp2_with fail
   refine (must_no 3 _).mono ?_
   rintro e w2 ⟨rfl, rfl⟩
   go_wp2
   exact ⟨rfl, rfl, b4 _ _ _ _ _⟩
  ·go_wp2_with fail
   refine (must_no 3 _).mono ?_
   rintro e w2 ⟨rfl, rfl⟩
   go_wp2
   exact ⟨rfl, rfl, b4 _ _ _ _ _⟩
set_option maxHeartbeats 1000000 in
set_option maxRecDepth 100000 in
theorem rck6_any (lv : Value) (c : ByteArray) (lo hi : Int) (wv kv : Value) (x1 x2 x3 y1 y2 y3 : Int) (hx : BOk (x1, x2, x3)) (hy : BOk (y1, y2, y3)) (w : World) : RkC w lv 6 c lo hi wv kv x1 x2 x3 y1 y2 y3 (if wrtB lo lo then .ok (x1, spn lo lo * x2, spn lo lo * x3) else .error 3) := by
 obtain ⟨p1, p2, p3, p4, p5, p6⟩ := hx
 obtain ⟨q1, q2, q3, q4, q5, q6⟩ := hy
 simp only at p1 p2 p3 p4 p5 p6 q1 q2 q3 q4 q5 q6
 go_enter Tryz.func110, Tryz.ntmps110
 cases h : wrtB lo lo with
 | true =>
  have h0 := spn_bd h
  have m1 := mul_bd h0.1 h0.2 p3 p4
  have m2 := mul_bd h0.1 h0.2 p5 p6
  have k1 := fun W => span_ok lo lo W h
  obtain ⟨s, hs⟩ : ∃ s, spn lo lo = s := ⟨_, rfl⟩
  rw [hs] at h0 m1 m2 k1
  rw [if_pos rfl, hs]
  have hw1 : wrap64 (s * x2) = s * x2 := wrap_id (by omega)
  have hw2 : wrap64 (s * x3) = s * x3 := wrap_id (by omega)
  clear hs h
  go_wp2_with fail
  refine (k1 _).mono ?_
  rintro e w2 ⟨rfl, rfl⟩
  clear k1
  go_wp2
  exact bodyPost_ret (v := .agg #[.int .i64 (x1), .int .i64 (s * x2), .int .i64 (s * x3)]) (by simp [results, Tryz.results110, go_sem]) rfl ⟨rfl, b4 _ _ _ _ _⟩
 | false =>
  rw [if_neg (by simp)]
  go_wp2_with fail
  refine (span_no lo lo _ h).mono ?_
  rintro e w2 ⟨rfl, rfl⟩
  go_wp2
  exact ⟨rfl, rfl, b4 _ _ _ _ _⟩
set_option maxHeartbeats 1000000 in
set_option maxRecDepth 100000 in
theorem rck1_any (lv : Value) (c : ByteArray) (lo hi : Int) (wv kv : Value) (x1 x2 x3 y1 y2 y3 : Int) (hx : BOk (x1, x2, x3)) (hy : BOk (y1, y2, y3)) (w : World) (B : Nat) (l : List Col) (wh : List Tst) (hB : B ≤ w.heap.size) (hp : Cols w B lv l) (hq : Tss w B wv wh) (r : Except Int Bnd) (hr : ifW (whE l wh) (1, 1, 4096) = r) : RkC w lv 1 c lo hi wv kv x1 x2 x3 y1 y2 y3 (r) := by
 obtain ⟨p1, p2, p3, p4, p5, p6⟩ := hx
 obtain ⟨q1, q2, q3, q4, q5, q6⟩ := hy
 simp only at p1 p2 p3 p4 p5 p6 q1 q2 q3 q4 q5 q6
 obtain ⟨er, her⟩ : ∃ er, whE l wh = er := ⟨_, rfl⟩
 rw [her] at hr
 have HR : Hid (ifW er (1, 1, 4096) = r) := hr
 have rk := Rk.new w 1 c lo hi wv kv x1 x2 x3 y1 y2 y3
 have k1 := passing_any B lv wv l wh ((((w.alloc (.cells #[.int .i64 1, .string c, .int .i64 lo, .int .i64 hi, wv, kv] 65)).alloc (.cells #[.int .i64 x1, .int .i64 x2, .int .i64 x3] 105)).alloc (.cells #[.int .i64 y1, .int .i64 y2, .int .i64 y3] 105)).alloc (.cells #[.int .i64 0, .int .i64 0, .int .i64 0] 105)) (by simp; omega) (hp.at hB (b4 _ _ _ _ _)) (hq.at hB (b4 _ _ _ _ _)) er her
 obtain ⟨wa, wc, rfl, _⟩ := hq.slice
 obtain ⟨la, lc, rfl, hlc, hll⟩ := hp.slice
 clear her hp hq hr
 go_enter Tryz.func110, Tryz.ntmps110
 go_wp2_with fail
 refine k1.mono ?_
 rintro e w1 ⟨hb1, h⟩
 clear k1
 have hbw : Below w.heap.size w w1 := bt (b4 _ _ _ _ _) hb1
 have rk1 := rk.at hb1
 clear hb1 rk
 rcases h with ⟨rfl, A, sv, es, _, rfl, _⟩ | ⟨he, rfl⟩
 ·obtain rfl : Except.ok (1, 1, 4096) = r := by rw [← HR.out, ifW, if_pos rfl]
  have t0 := rk1.e0.c
  have t1 := rk1.e1.c
  have t2 := rk1.e2.c
  have s0 := rk1.e0.f
  have s1 := rk1.e1.f
  have s2 := rk1.e2.f
  go_wp2
  exact bodyPost_ret (v := .agg #[.int .i64 (1), .int .i64 (1), .int .i64 (4096)]) (by simp [results, Tryz.results110, go_sem, t0, t1, t2]) rfl ⟨rfl, b3s hbw _ _ _⟩
 ·obtain rfl : Except.error er = r := by rw [← HR.out, ifW, if_neg he]
  go_wp2
  exact ⟨rfl, rfl, hbw⟩
set_option maxHeartbeats 1000000 in
set_option maxRecDepth 100000 in
theorem rck2_any (lv : Value) (c : ByteArray) (lo hi : Int) (wv kv : Value) (x1 x2 x3 y1 y2 y3 : Int) (hx : BOk (x1, x2, x3)) (hy : BOk (y1, y2, y3)) (w : World) (B : Nat) (l : List Col) (wh : List Tst) (hB : B ≤ w.heap.size) (hp : Cols w B lv l) (hq : Tss w B wv wh) (r : Except Int Bnd) (hr : rec l 2 c lo hi wh (x1, x2, x3) (y1, y2, y3) = r) : RkC w lv 2 c lo hi wv kv x1 x2 x3 y1 y2 y3 (r) := by
 obtain ⟨p1, p2, p3, p4, p5, p6⟩ := hx
 obtain ⟨q1, q2, q3, q4, q5, q6⟩ := hy
 simp only at p1 p2 p3 p4 p5 p6 q1 q2 q3 q4 q5 q6
 have rk := Rk.new w 2 c lo hi wv kv x1 x2 x3 y1 y2 y3
 have HP : Hid (Cols w B lv l) := hp
 have HQ : Hid (Tss w B wv wh) := hq
 have HR : Hid (rec l 2 c lo hi wh (x1, x2, x3) (y1, y2, y3) = r) := hr
 obtain ⟨wa, wc, rfl, _⟩ := hq.slice
 obtain ⟨la, lc, rfl, hlc, hll⟩ := hp.slice
 clear hp hq hr
 go_enter Tryz.func110, Tryz.ntmps110
 cases hf : fnd l c with
 | none =>
  obtain rfl : Except.error 7 = r := by rw [← HR.out]; simp [rec, hf]
  have k1 := find_no B _ l c ((((w.alloc (.cells #[.int .i64 2, .string c, .int .i64 lo, .int .i64 hi, .slice wa wh.length wc, kv] 65)).alloc (.cells #[.int .i64 x1, .int .i64 x2, .int .i64 x3] 105)).alloc (.cells #[.int .i64 y1, .int .i64 y2, .int .i64 y3] 105)).alloc (.cells #[.int .i64 0, .int .i64 0, .int .i64 0] 105)) (by simp; omega) (HP.out.at hB (b4 _ _ _ _ _)) hf
  clear hf
  go_wp2_with fail
  refine k1.mono ?_
  rintro e w1 ⟨rfl, hb1⟩
  have hbw : Below w.heap.size w w1 := bt (b4 _ _ _ _ _) hb1
  go_wp2
  exact ⟨rfl, rfl, hbw⟩
 | some i =>
  have HF : Hid (fnd l c = some i) := hf
  have k1 := find_ok B _ l c ((((w.alloc (.cells #[.int .i64 2, .string c, .int .i64 lo, .int .i64 hi, .slice wa wh.length wc, kv] 65)).alloc (.cells #[.int .i64 x1, .int .i64 x2, .int .i64 x3] 105)).alloc (.cells #[.int .i64 y1, .int .i64 y2, .int .i64 y3] 105)).alloc (.cells #[.int .i64 0, .int .i64 0, .int .i64 0] 105)) (by simp; omega) (HP.out.at hB (b4 _ _ _ _ _)) i hf
  clear hf
  go_wp2_with fail
  refine k1.mono ?_
  rintro e w1 ⟨rfl, hb1⟩
  have hbw : Below w.heap.size w w1 := bt (b4 _ _ _ _ _) hb1
  have rk1 := rk.at hb1
  clear hb1 rk k1
  have hsw := hbw.size
  have rk1a0 := rk1.a0.c
  have rk1a1 := rk1.a1.c
  have rk1a2 := rk1.a2.c
  have rk1a3 := rk1.a3.c
  have rk1a4 := rk1.a4.c
  cases hw : wrtB lo hi with
  | false =>
   obtain rfl : Except.error 3 = r := by rw [← HR.out]; simp [rec, HF.out, hw]
   go_wp2_with fail
   refine (span_no lo hi _ hw).mono ?_
   rintro e w2 ⟨rfl, rfl⟩
   go_wp2
   exact ⟨rfl, rfl, hbw⟩
  | true =>
   have h0 := spn_bd hw
   have k2 := fun W => span_ok lo hi W hw
   have HR2 : Hid (ifW (whE l wh) (1, spn lo hi, 4096 * spn lo hi) = r) := by show _ = _; have := HR.out; simpa [rec, HF.out, hw] using this
   obtain ⟨s, hs⟩ : ∃ s, spn lo hi = s := ⟨_, rfl⟩
   obtain ⟨er, her⟩ : ∃ er, whE l wh = er := ⟨_, rfl⟩
   rw [hs] at h0 k2 HR2
   rw [her] at HR2
   have k3 := passing_any B _ _ l wh w1 (by omega) (HP.out.at hB hbw) (HQ.out.at hB hbw) er her
   clear hs hw her HR
   have HR : Hid (ifW er (1, s, 4096 * s) = r) := HR2
   clear HR2
   go_wp2_with fail
   refine (k2 _).mono ?_
   rintro e w2 ⟨rfl, rfl⟩
   clear k2
   go_wp2_with fail
   refine k3.mono ?_
   rintro e w3 ⟨hb3, h⟩
   clear k3
   have hbw3 : Below w.heap.size w w3 := bt hbw hb3
   have rk3 := rk1.at hb3
   clear rk1a0 rk1a1 rk1a2 rk1a3 rk1a4
   clear hb3 rk1 hbw hsw
   rcases h with ⟨rfl, A, sv, es, _, rfl, _⟩ | ⟨he, rfl⟩
   ·obtain rfl : Except.ok (1, s, 4096 * s) = r := by rw [← HR.out, ifW, if_pos rfl]
    have t0 := rk3.e0.c
    have t1 := rk3.e1.c
    have t2 := rk3.e2.c
    have s0 := rk3.e0.f
    have s1 := rk3.e1.f
    have s2 := rk3.e2.f
    go_wp2
    exact bodyPost_ret (v := .agg #[.int .i64 (1), .int .i64 (s), .int .i64 (4096 * s)]) (by simp [results, Tryz.results110, go_sem, t0, t1, t2]) rfl ⟨rfl, b3s hbw3 _ _ _⟩
   ·obtain rfl : Except.error er = r := by rw [← HR.out, ifW, if_neg he]
    go_wp2
    exact ⟨rfl, rfl, hbw3⟩
set_option maxHeartbeats 1000000 in
set_option maxRecDepth 100000 in
theorem rck3_any (lv : Value) (c : ByteArray) (lo hi : Int) (wv kv : Value) (x1 x2 x3 y1 y2 y3 : Int) (hx : BOk (x1, x2, x3)) (hy : BOk (y1, y2, y3)) (w : World) (B : Nat) (l : List Col) (wh : List Tst) (hB : B ≤ w.heap.size) (hp : Cols w B lv l) (hq : Tss w B wv wh) (r : Except Int Bnd) (hr : rec l 3 c lo hi wh (x1, x2, x3) (y1, y2, y3) = r) : RkC w lv 3 c lo hi wv kv x1 x2 x3 y1 y2 y3 (r) := by
 obtain ⟨p1, p2, p3, p4, p5, p6⟩ := hx
 obtain ⟨q1, q2, q3, q4, q5, q6⟩ := hy
 simp only at p1 p2 p3 p4 p5 p6 q1 q2 q3 q4 q5 q6
 have rk := Rk.new w 3 c lo hi wv kv x1 x2 x3 y1 y2 y3
 have HP : Hid (Cols w B lv l) := hp
 have HQ : Hid (Tss w B wv wh) := hq
 have HR : Hid (rec l 3 c lo hi wh (x1, x2, x3) (y1, y2, y3) = r) := hr
 obtain ⟨wa, wc, rfl, _⟩ := hq.slice
 obtain ⟨la, lc, rfl, hlc, hll⟩ := hp.slice
 clear hp hq hr
 go_enter Tryz.func110, Tryz.ntmps110
 cases hf : fnd l c with
 | none =>
  obtain rfl : Except.error 7 = r := by rw [← HR.out]; simp [rec, hf]
  have k1 := find_no B _ l c ((((w.alloc (.cells #[.int .i64 3, .string c, .int .i64 lo, .int .i64 hi, .slice wa wh.length wc, kv] 65)).alloc (.cells #[.int .i64 x1, .int .i64 x2, .int .i64 x3] 105)).alloc (.cells #[.int .i64 y1, .int .i64 y2, .int .i64 y3] 105)).alloc (.cells #[.int .i64 0, .int .i64 0, .int .i64 0] 105)) (by simp; omega) (HP.out.at hB (b4 _ _ _ _ _)) hf
  clear hf
  go_wp2_with fail
  refine k1.mono ?_
  rintro e w1 ⟨rfl, hb1⟩
  have hbw : Below w.heap.size w w1 := bt (b4 _ _ _ _ _) hb1
  go_wp2
  exact ⟨rfl, rfl, hbw⟩
 | some i =>
  have HF : Hid (fnd l c = some i) := hf
  have k1 := find_ok B _ l c ((((w.alloc (.cells #[.int .i64 3, .string c, .int .i64 lo, .int .i64 hi, .slice wa wh.length wc, kv] 65)).alloc (.cells #[.int .i64 x1, .int .i64 x2, .int .i64 x3] 105)).alloc (.cells #[.int .i64 y1, .int .i64 y2, .int .i64 y3] 105)).alloc (.cells #[.int .i64 0, .int .i64 0, .int .i64 0] 105)) (by simp; omega) (HP.out.at hB (b4 _ _ _ _ _)) i hf
  clear hf
  go_wp2_with fail
  refine k1.mono ?_
  rintro e w1 ⟨rfl, hb1⟩
  have hbw : Below w.heap.size w w1 := bt (b4 _ _ _ _ _) hb1
  have rk1 := rk.at hb1
  clear hb1 rk k1
  have hsw := hbw.size
  have rk1a0 := rk1.a0.c
  have rk1a1 := rk1.a1.c
  have rk1a2 := rk1.a2.c
  have rk1a3 := rk1.a3.c
  have rk1a4 := rk1.a4.c
  have HR2 : Hid (ifW (whE l wh) (szC l i, 1, 4096) = r) := by show _ = _; have := HR.out; simpa [rec, HF.out] using this
  obtain ⟨er, her⟩ : ∃ er, whE l wh = er := ⟨_, rfl⟩
  rw [her] at HR2
  have k3 := passing_any B _ _ l wh w1 (by omega) (HP.out.at hB hbw) (HQ.out.at hB hbw) er her
  clear her HR
  have HR : Hid (ifW er (szC l i, 1, 4096) = r) := HR2
  clear HR2
  go_wp2_with fail
  refine k3.mono ?_
  rintro e w3 ⟨hb3, h⟩
  clear k3
  have hbw3 : Below w.heap.size w w3 := bt hbw hb3
  have rk3 := rk1.at hb3
  clear rk1a0 rk1a1 rk1a2 rk1a3 rk1a4
  clear hb3 rk1 hbw hsw
  have hil := fnd_lt HF.out
  obtain ⟨b, o, nm, sz, rfl, hb, hgt, c1, c2, hn⟩ := HP.out.get hB hbw3 hil
  have hsz : szC l i = sz := by simp [szC, hgt]
  rw [hsz] at HR
  clear hgt hsz
  rcases h with ⟨rfl, A, sv, es, _, rfl, _⟩ | ⟨he, rfl⟩
  ·obtain rfl : Except.ok (sz, 1, 4096) = r := by rw [← HR.out, ifW, if_pos rfl]
   have t0 := rk3.e0.c
   have t1 := rk3.e1.c
   have t2 := rk3.e2.c
   have s0 := rk3.e0.f
   have s1 := rk3.e1.f
   have s2 := rk3.e2.f
   go_wp2
   exact bodyPost_ret (v := .agg #[.int .i64 (sz), .int .i64 (1), .int .i64 (4096)]) (by simp [results, Tryz.results110, go_sem, t0, t1, t2]) rfl ⟨rfl, b3s hbw3 _ _ _⟩
  ·obtain rfl : Except.error er = r := by rw [← HR.out, ifW, if_neg he]
   go_wp2
   exact ⟨rfl, rfl, hbw3⟩
set_option maxHeartbeats 16000000 in
set_option maxRecDepth 100000 in
theorem rck10_any (lv : Value) (c : ByteArray) (lo hi : Int) (wv kv : Value) (x1 x2 x3 y1 y2 y3 : Int) (hx : BOk (x1, x2, x3)) (hy : BOk (y1, y2, y3)) (w : World) : RkC w lv 10 c lo hi wv kv x1 x2 x3 y1 y2 y3 (if wrtB lo hi then .ok (x1, x2, spn lo hi) else .error 3) := by
 obtain ⟨p1, p2, p3, p4, p5, p6⟩ := hx
 obtain ⟨q1, q2, q3, q4, q5, q6⟩ := hy
 simp only at p1 p2 p3 p4 p5 p6 q1 q2 q3 q4 q5 q6
 go_enter Tryz.func110, Tryz.ntmps110
 cases h : wrtB lo hi with
 | true =>
  have k1 := fun W => span_ok lo hi W h
  rw [if_pos rfl]
  clear h
  go_wp2
  go_region_held3 (fun w' => w'.cell? ⟨w.heap.size, 2, none⟩ = some (.int .i64 lo) ∧ w'.cell? ⟨w.heap.size, 3, none⟩ = some (.int .i64 hi) ∧ w'.cell? ⟨w.heap.size + 1, 0, none⟩ = some (.int .i64 x1) ∧ w'.cell? ⟨w.heap.size + 1, 1, none⟩ = some (.int .i64 x2)) (first | assumption | (simp [go_sem, *]; done)) ((go_at_call 154; refine (k1 _).mono ?_; rintro x3 w3 ⟨rfl, hw3⟩; subst hw3))
  go_wp2
  exact bodyPost_ret (v := .agg #[.int .i64 x1, .int .i64 x2, .int .i64 (spn lo hi)]) (by simp [results, Tryz.results110, go_sem]) rfl ⟨rfl, (b4 _ _ _ _ _).drew⟩
 | false =>
  have k1 := fun W => span_no lo hi W h
  rw [if_neg (by simp)]
  clear h
  go_wp2
  go_region_dies
  all_goals (go_at_call 154; refine (k1 _).mono ?_; rintro x3 w3 ⟨rfl, hw3⟩; subst hw3; exact ⟨rfl, rfl, (b4 _ _ _ _ _).drew⟩)
theorem kidN_cases {k : Int} (h : ¬ kidN k < 0) : k = 1 ∨ k = 2 ∨ k = 3 ∨ k = 4 ∨ k = 5 ∨ k = 6 ∨ k = 7 ∨ k = 8 ∨ k = 9 ∨ k = 10 := by
 unfold kidN at h
 split at h
 ·omega
 ·split at h
  ·omega
  ·split at h
   ·omega
   ·omega
theorem rck_any (k : Int) (hk : ¬ kidN k < 0) (lv : Value) (c : ByteArray) (lo hi : Int) (wv kv : Value) (x y : Bnd) (hx : BOk x) (hy : BOk y) (w : World) (B : Nat) (l : List Col) (wh : List Tst) (hB : B ≤ w.heap.size) (hp : Cols w B lv l) (hq : Tss w B wv wh)
  (r : Except Int Bnd) (hr : rec l k c lo hi wh x y = r) : RkC w lv k c lo hi wv kv x.1 x.2.1 x.2.2 y.1 y.2.1 y.2.2 r := by
 obtain ⟨x1, x2, x3⟩ := x
 obtain ⟨y1, y2, y3⟩ := y
 rcases kidN_cases hk with rfl | rfl | rfl | rfl | rfl | rfl | rfl | rfl | rfl | rfl
 ·exact rck1_any lv c lo hi wv kv x1 x2 x3 y1 y2 y3 hx hy w B l wh hB hp hq r (by rw [← hr]; simp [rec])
 ·exact rck2_any lv c lo hi wv kv x1 x2 x3 y1 y2 y3 hx hy w B l wh hB hp hq r hr
 ·exact rck3_any lv c lo hi wv kv x1 x2 x3 y1 y2 y3 hx hy w B l wh hB hp hq r hr
 ·subst hr; have := rck4_any lv c lo hi wv kv x1 x2 x3 y1 y2 y3 hx hy w; simpa [rec] using this
 ·subst hr; have := rck5_any lv c lo hi wv kv x1 x2 x3 y1 y2 y3 hx hy w; simpa [rec] using this
 ·subst hr; have := rck6_any lv c lo hi wv kv x1 x2 x3 y1 y2 y3 hx hy w; simpa [rec] using this
 ·subst hr; have := rck7_any lv c lo hi wv kv x1 x2 x3 y1 y2 y3 hx hy w; simpa [rec] using this
 ·subst hr; have := rck8_any lv c lo hi wv kv x1 x2 x3 y1 y2 y3 hx hy w; simpa [rec] using this
 ·subst hr; have := rck9_any lv c lo hi wv kv x1 x2 x3 y1 y2 y3 hx hy w; simpa [rec] using this
 ·subst hr; have := rck10_any lv c lo hi wv kv x1 x2 x3 y1 y2 y3 hx hy w; simpa [rec] using this
end Go.Proofs.YtkolmadahacoeaaGreat.K
