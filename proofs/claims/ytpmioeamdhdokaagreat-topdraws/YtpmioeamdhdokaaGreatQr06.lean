import Derived.Test.YtpmioeamdhdokaaGreatQr05
namespace Go.Proofs.YtpmioeamdhdokaaGreat
open Go.RowKit Go.Proofs.YtpmioeamdhdokaaGreat.Ds
open Go.Proofs.YtpmioeamdhdokaaGreat.K.P (HSt Keeps keeps_below W64 row_keeps row_lt row_slice enc)

theorem talive_any (w : World) : Calls Tryz.prog 17 #[] w fun e w' => e = .returned (.bool true) ∧ Below w.heap.size w w' := by
  have kc := K.P.make_any 2 4 1 2 0 (by decide) (by decide) (by decide +kernel) w
  go_enter Tryz.func17, Tryz.ntmps17
  go_wp2_with fail
  refine kc.mono ?_
  rintro e1 w1 ⟨rfl, hb1⟩
  clear kc
  go_wp2
  go_ret
  exact ⟨rfl, bal hb1 _⟩
theorem dg_wr (k L : Nat) (hL : L ≤ 9) : wrB (dg k L) 0 = 0 := by
  unfold wrB
  have h1 := dg_len k L
  have h2 := dg_bits k L
  rw [if_neg (by omega), if_neg (by rw [h2]; simp)]
/-- what is seen of the three steps -/
def Drn (d : List Pt) (bits : List Int) (N0 : Nat) (ov : Value) (W : World) : Prop :=
  ∃ (g c : Nat) (e2 e3 : Int) (t2 x2 : Value) (ta : Option Addr) (tn tc : Nat) (xa : Option Addr) (xn xc : Nat) (us2 lu2 ld2 us3 lu3 ld3 : Int),
    ov = .slice (some ⟨g, 0, none⟩) 3 c ∧ N0 ≤ g ∧ g < W.heap.size ∧ W.rangeAt g 6 [.int .i64 e2, t2, .int .i64 us2, .int .i64 lu2, .int .i64 ld2, x2] ∧ W.rangeAt g 12 [.int .i64 e3, .slice ta tn tc, .int .i64 us3, .int .i64 lu3, .int .i64 ld3, .slice xa xn xc] ∧
    (e2 ≠ 0 ∨ e3 = 4 ∨ e3 = 10 ∨ (e3 = 6 ∧ roOut d bits = none) ∨ (e3 = 0 ∧ ∃ z gz, roOut d bits = some [z] ∧ ta = some ⟨gz, 0, none⟩ ∧ tn = 1 ∧ tc = 1 ∧ N0 ≤ gz ∧ gz < W.heap.size ∧ K.RowI W gz [z]))

theorem seen_drn {l : List K.Ds.Col} {ts : List (List Int)} {x1 x2 x3 : Stp} {lu ld : Int} {d : List Pt} (h1 : x1.act = 1) (h2 : x2.act = 2) (h3 : x3.act = 3) (hn : x2.nm = x3.pn) (hw : K.Ds.wroE l ts = 0)
    (hA : ansT x3.u x3.d x3.lo x3.hi l ts x3.q = ([d], lu, ld, 0)) (hb : wrB x3.bits 0 = 0) (hd : ∀ p ∈ d, ∃ z, p.1 = [z])
    {W0 w' : World} {N0 bd bw : Nat} {a : Option Addr} {c : Nat} {hv ov : Value} {s : HSt} {os : List (K.P.Sn Tol)} {M G : Nat → Prop} (hrun : runP l ts ⟨List.replicate 30 0, -1, false, false, []⟩ [x1, x2, x3] = (s, os)) (HI : HuI W0 w' N0 bd bw a c l ts hv ov s os M G) : Drn d x3.bits N0 ov w' := by
  obtain ⟨s', y1, y2, y3, hr, ho⟩ := draws_run (lu := lu) (ld := ld) (ls := [d]) h1 h2 h3 hn hw hA hb
  rw [hrun] at hr
  simp only [Prod.mk.injEq] at hr
  obtain ⟨rfl, rfl⟩ := hr
  obtain ⟨css, o1, o2, o3, o4⟩ := HI.out
  obtain ⟨cs2, g, cap, hov, hg1, hg2, hr2, hs2⟩ := seen_row o1 o2 o4 (i := 1) (x := y2) rfl
  obtain ⟨cs3, g', cap', hov', _, _, hr3, hs3⟩ := seen_row o1 o2 o4 (i := 2) (x := y3) rfl
  rw [hov] at hov'
  simp only [Value.slice.injEq, Option.some.injEq, Addr.mk.injEq] at hov'
  obtain ⟨⟨rfl, _⟩, _, rfl⟩ := hov'
  obtain ⟨tv2, ev2, us2, lu2, ld2, rfl, _⟩ := hs2
  obtain ⟨tv3, ev3, us3, lu3, ld3, rfl, ht3, he3, _⟩ := hs3
  obtain ⟨xa, xc, rfl⟩ := row_slice he3
  obtain ⟨ta, tn, tc, rfl⟩ : ∃ ta tn tc, tv3 = .slice ta tn tc := by
    rcases ht3 with ⟨_, h, _⟩ | ⟨_, _, _, _, _, _, _, h, _⟩
    · exact ⟨_, _, _, h⟩
    · exact ⟨_, _, _, h⟩
  refine ⟨g, cap, y2.err, y3.err, tv2, ev2, ta, tn, tc, xa, _, xc, us2, lu2, ld2, us3, lu3, ld3, hov, hg1, hg2, hr2, hr3, ?_⟩
  rcases ho with ho | ho | ho | ⟨ho, he⟩ | ⟨vs, us, ho, he, ht⟩
  · exact .inl ho
  · exact .inr (.inl ho)
  · exact .inr (.inr (.inl ho))
  · exact .inr (.inr (.inr (.inl ⟨he, draw_none ho⟩)))
  · obtain ⟨q1, z, rfl⟩ := draw_some hd ho
    refine .inr (.inr (.inr (.inr ⟨he, z, ?_⟩)))
    rcases ht3 with ⟨h, _⟩ | ⟨vs, n, gz, h, _, _, _, hv, _, hG, hrow⟩
    · rw [ht] at h; cases h
    · rw [ht] at h
      simp only [Option.some.injEq, Prod.mk.injEq] at h
      obtain ⟨rfl, _⟩ := h
      simp only [Value.slice.injEq] at hv
      exact ⟨gz, q1, hv.1, hv.2.1, hv.2.2, (HI.gg gz hG).1, (HI.gg gz hG).2.1, hrow⟩
theorem Drn.mono {d : List Pt} {bits : List Int} {N0 N1 : Nat} {ov : Value} {W : World} (h : Drn d bits N0 ov W) (hN : N1 ≤ N0) : Drn d bits N1 ov W := by
  obtain ⟨g, c, e2, e3, t2, x2, ta, tn, tc, xa, xn, xc, us2, lu2, ld2, us3, lu3, ld3, h1, h2, h3, h4, h5, h6⟩ := h
  refine ⟨g, c, e2, e3, t2, x2, ta, tn, tc, xa, xn, xc, us2, lu2, ld2, us3, lu3, ld3, h1, Nat.le_trans hN h2, h3, h4, h5, ?_⟩
  rcases h6 with h | h | h | h | ⟨h, z, gz, q1, q2, q3, q4, q5, q6⟩
  · exact .inl h
  · exact .inr (.inl h)
  · exact .inr (.inr (.inl h))
  · exact .inr (.inr (.inr (.inl h)))
  · exact .inr (.inr (.inr (.inr ⟨h, z, gz, q1, q2, q3, q4, Nat.le_trans hN q5, q6⟩)))
abbrev nmP : ByteArray := ⟨#[112]⟩
def thr (q : K.Ds.Qu) (v0 : Int) (v1 : ByteArray) (v2 v3 : Int) (a4 : Option Addr) (n4 c4 : Nat) (a5 : Option Addr) (n5 c5 : Nat) (u d lo hi : Int) (bits : List Int) (xa : Option Addr) (xc : Nat) : Stv :=
  ⟨⟨3, 0, ⟨#[]⟩, 0, 0, nmP, q, u, d, lo, hi, bits, 0⟩, v0, v1, v2, v3, a4, n4, c4, a5, n5, c5, xa, xc⟩
theorem blP (bu bd : Int) : Tryz.prog.built 56 [(0, .int .i64 2), (2, .string nmP), (3, .agg #[.int .i64 bu, .int .i64 bd])] = some (mkS 2 bu bd nmP).cs.toArray := by kernel_rfl
theorem blA (q : K.Ds.Qu) (v0 : Int) (v1 : ByteArray) (v2 v3 : Int) (a4 : Option Addr) (n4 c4 : Nat) (a5 : Option Addr) (n5 c5 : Nat) (u d lo hi : Int) (bits : List Int) (xa : Option Addr) (xc : Nat) :
    Tryz.prog.built 56 [(0, .int .i64 3), (4, .agg ([.string nmP, .int .i64 v0, .string v1, .int .i64 v2, .int .i64 v3, .slice a4 n4 c4, .slice a5 n5 c5, .int .i64 u, .int .i64 d, .int .i64 lo, .int .i64 hi, .slice xa bits.length xc] : List Value).toArray)] = some (thr q v0 v1 v2 v3 a4 n4 c4 a5 n5 c5 u d lo hi bits xa xc).cs.toArray := by kernel_rfl
theorem wpList_built2 {P : Program} {ops : Array Oper} {rest : List Oper} {o : Oper} {a : Act} {w : World} {Q : Exit → Act → World → Prop} (hg : o.guard = none) (t : TypeId) (n m : Nat) (x y : Operand) (ho : o.op = .build t #[(n, x), (m, y)]) (d : Option Tmp) (hd : o.dst = d) (v v' : Value) (hv : a.eval x = v) (hv' : a.eval y = v') (cells : Array Value) (hf : P.built t [(n, v), (m, v')] = some cells)
    (h : wpList P ops Q rest (a.put d (.agg cells)) w) : wpList P ops Q (o :: rest) a w := wpList_buildTo hg t _ ho d hd cells (by subst hv hv'; simpa using hf) h
theorem infos37 : (Tryz.prog.info? 37).map (fun i => i.size) = some 2 := by kernel_rfl

/-- a house, opened for whom it is paid and asked -/
theorem hous_any (A : World) (B g : Nat) (cv tv : Value) (l : List K.Ds.Col) (rs : List K.Rw) (q : K.Ds.Qu) (v0 : Int) (v1 : ByteArray) (v2 v3 : Int) (a4 : Option Addr) (n4 c4 : Nat) (a5 : Option Addr) (n5 c5 : Nat) (u d lo hi bu bd lu ld : Int) (bits : List Int) (xa : Option Addr) (xc : Nat) (D : List Pt)
    (hB : B ≤ A.heap.size) (hp : K.Cols A B cv l) (hr : K.Rws A B tv rs) (hq : K.Qm A B q (.int .i64 v0) (.string v1) (.int .i64 v2) (.int .i64 v3) (.slice a4 n4 c4) (.slice a5 n5 c5)) (hlo : I64 lo) (hhi : I64 hi)
    (hI : Ints A A.heap.size 0 (.slice xa bits.length xc) bits) (hx : xa = none → xc = 0) (hg : Owb A g 56 (sfl [mkS 1 0 0 ⟨#[]⟩, mkS 2 bu bd nmP, thr q v0 v1 v2 v3 a4 n4 c4 a5 n5 c5 u d lo hi bits xa xc]))
    (hw : K.Ds.wroE l (K.rr rs) = 0) (hA : ansT u d lo hi l (K.rr rs) q = ([D], lu, ld, 0)) (hb : wrB bits 0 = 0) (hd : ∀ p ∈ D, ∃ z, p.1 = [z]) :
    ∀ V : World, Below A.heap.size A V → Calls Tryz.prog 7 #[.agg #[cv, tv], .slice (some ⟨V.heap.size, 0, none⟩) 30 30, .slice (some ⟨g, 0, none⟩) 3 3] (V.alloc (.cells (madeCells #[.int .i64 0] 30) 2)) fun e W' => ∃ ov sl, e = .returned (.tuple #[ov, sl, .bool true]) ∧ Drn D bits A.heap.size ov W' ∧ Below A.heap.size A W' := by
  intro V hV
  obtain ⟨X, hX⟩ : ∃ X, V.alloc (.cells (madeCells #[.int .i64 0] 30) 2) = X := ⟨_, rfl⟩
  have hbV : Below V.heap.size V X := hX ▸ ba _ _
  have hbX : Below A.heap.size A X := bt hV hbV
  have hsX : A.heap.size ≤ X.heap.size := hbX.size
  have hsv : Svs X X.heap.size (.slice (some ⟨g, 0, none⟩) 3 3) [mkS 1 0 0 ⟨#[]⟩, mkS 2 bu bd nmP, thr q v0 v1 v2 v3 a4 n4 c4 a5 n5 c5 u d lo hi bits xa xc] := by
    refine blk_svs (ss := [mkS 1 0 0 ⟨#[]⟩, mkS 2 bu bd nmP, thr q v0 v1 v2 v3 a4 n4 c4 a5 n5 c5 u d lo hi bits xa xc]) ((hbX.block g hg.lt).trans hg) (by simp) (fun s hs => ?_)
    simp only [List.mem_cons, List.not_mem_nil, or_false] at hs
    rcases hs with rfl | rfl | rfl
    · exact mk_m _ _ _ _ _ _ (by decide)
    · exact mk_m _ _ _ _ _ _ (by decide)
    · have z0 : I64 0 := ⟨by decide, by decide⟩
      exact ⟨0, K.P.qm_mono (Nat.le_trans hB hsX) _ (K.Qm.at hq hB hbX), (hI.at2 hbX), hx, hlo, hhi, z0, z0, Nat.zero_le _, show nmP.size ≤ 9223372036854775807 by decide⟩
  have hst := svs_stps hsv (by simp)
  have h1 := house_any X.heap.size cv tv _ l rs (some ⟨V.heap.size, 0, none⟩) 30 (List.replicate 30 0) _ X (Nat.le_refl _) ((hp.at hB hbX).mono (Nat.le_trans hB hsX)) ((hr.at hB hbX).mono (Nat.le_trans hB hsX)) (fun h => by cases h) (fun ad ha j u hj => by
    simp only [Option.some.injEq] at ha
    subst ha
    have e : (⟨V.heap.size, 0, none⟩ : Addr).add j = ⟨V.heap.size, j, none⟩ := by unfold Addr.add; split <;> simp_all
    refine ⟨by rw [← hX]; simp, ?_⟩
    rw [e, ← hX, World.cell?_alloc_at _ _ _ _ rfl]
    show (madeCells #[.int .i64 0] 30)[j]? = _
    have e : (madeCells #[.int .i64 0] 30)[j]? = (List.replicate 30 (Value.int .i64 0))[j]? := by rw [← toList_madeCells_one, Array.getElem?_toList]
    rw [e]
    rw [List.getElem?_replicate] at hj ⊢
    split at hj
    · rename_i c
      rw [if_pos c]
      simp only [Option.some.injEq] at hj
      rw [← hj]
    · cases hj) (fun x hx => by have := List.eq_of_mem_replicate hx; omega) (by decide) hst (by simp)
  rw [hX]
  refine h1.mono ?_
  rintro x5 w' ⟨W0, b1, bw, a, c, hv, ov, s, os, M, G, rfl, hrun, hbel, HI⟩
  refine ⟨ov, _, rfl, ?_, bt hbX hbel⟩
  refine (seen_drn (x1 := (mkS 1 0 0 ⟨#[]⟩).x) (x2 := (mkS 2 bu bd nmP).x) (x3 := (thr q v0 v1 v2 v3 a4 n4 c4 a5 n5 c5 u d lo hi bits xa xc).x) rfl rfl rfl rfl hw hA hb hd hrun HI).mono (by omega)
end Go.Proofs.YtpmioeamdhdokaaGreat
