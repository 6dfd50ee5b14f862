import Derived.Test.YtdcdjjemndadaaaApa
namespace Go.Proofs.Ytdcdjjemndadaaa
open Go.RowKit Go.Shelf Go.Proofs.Ytdcdjjemndadaaa.Ds
attribute [local go_sem] Oper.semAt_some

/-- the two parts of a round, in their boxes -/
def Two2 {w : World} {B : Nat} {M : Int} (W : World) (Bx : Nat) (x : PP w B M) : Prop :=
  W.heap[Bx]? = some (.cells #[x.1.1.1, .int .i64 x.1.1.2.2] 32 (0, 0)) ∧ W.heap[Bx + 1]? = some (.cells #[x.1.2.1, .int .i64 x.1.2.2.2] 32 (0, 0))

theorem Two2.own {w : World} {B : Nat} {M : Int} {W W' : World} {Bx : Nat} {x : PP w B M} {row : Option Nat} (h : Two2 W Bx x) (hg : W.grownBy W' row) (hr : ∀ r, row = some r → ∃ o : Obj, W.heap[r]? = some o ∧ o.isCells = false) : Two2 W' Bx x := by
  have key : ∀ (k : Nat) (o : Obj), W.heap[k]? = some o → o.isCells = true → W'.heap[k]? = some o := by
    intro k o hk ho
    rw [hg.block k (Array.getElem?_eq_some_iff.1 hk).1 ?_, hk]
    intro e
    obtain ⟨o', h1, h2⟩ := hr k e.symm
    rw [hk] at h1
    simp only [Option.some.injEq] at h1
    subst h1
    rw [ho] at h2
    cases h2
  exact ⟨key _ _ h.1 rfl, key _ _ h.2 rfl⟩

theorem Two2.cells {w : World} {B : Nat} {M : Int} {W : World} {Bx : Nat} {x : PP w B M} (h : Two2 W Bx x) :
    W.cell? ⟨Bx, 0, none⟩ = some x.1.1.1 ∧ W.cell? ⟨Bx, 1, none⟩ = some (.int .i64 x.1.1.2.2) ∧ W.cell? ⟨Bx + 1, 0, none⟩ = some x.1.2.1 ∧ W.cell? ⟨Bx + 1, 1, none⟩ = some (.int .i64 x.1.2.2.2) := by
  obtain ⟨h1, h2⟩ := h
  simp [World.cell?, h1, h2]

theorem two2_new {w : World} {B : Nat} {M : Int} (W : World) (x : PP w B M) : Two2 ((W.alloc (.cells #[x.1.1.1, .int .i64 x.1.1.2.2] 32)).alloc (.cells #[x.1.2.1, .int .i64 x.1.2.2.2] 32)) W.heap.size x := by
  refine ⟨?_, ?_⟩
  · rw [Below.heap_alloc _ _ _ (by simp)]; exact World.alloc_heap_new W _
  · have := World.alloc_heap_new (W.alloc (.cells #[x.1.1.1, .int .i64 x.1.1.2.2] 32)) (.cells #[x.1.2.1, .int .i64 x.1.2.2.2] 32)
    rwa [World.size_alloc] at this

theorem wrap_wrap (a b : Int) : wrap64 (wrap64 a + b) = wrap64 (a + b) := by
  unfold wrap64; omega
theorem wrap_id {a : Int} (h : -9223372036854775808 ≤ a ∧ a ≤ 9223372036854775807) : wrap64 a = a := by
  unfold wrap64; omega

/-- the sum so far -/
def sumPP {w : World} {B : Nat} {M : Int} (Ta Tb : Int) (pre : List (PP w B M)) : Int := apS Ta Tb (pre.map fun x => bare x.1)
theorem sumPP_snoc {w : World} {B : Nat} {M : Int} (Ta Tb : Int) (pre : List (PP w B M)) (x : PP w B M) : sumPP Ta Tb (pre ++ [x]) = sumPP Ta Tb pre + max 0 (x.1.1.2.2 * Tb - x.1.2.2.2 * Ta) := by
  simp only [sumPP, List.map_append, apS_append, List.map_cons, List.map_nil, apS, bare]; omega

set_option maxHeartbeats 4000000 in
set_option maxRecDepth 100000 in
theorem apart_any (B : Nat) (u v : Value) (ts us : List Tr) (w : World) (hB : B ≤ w.heap.size) (hp : Parts w B u ts) (hq : Parts w B v us) (n m er : Int) (hr : apartT (rd ts) (rd us) = (n, m, er)) :
    Calls Try.prog 29 #[u, v] w fun e w' => e = .returned (.tuple #[rv n m, .int .i64 er]) ∧ Below w.heap.size w w' := by
  have HP : Hid (Parts w B u ts) := hp
  have HQ : Hid (Parts w B v us) := hq
  obtain ⟨a, c, rfl, _⟩ := hp
  obtain ⟨a', c', rfl, _⟩ := hq
  obtain ⟨e0, HE⟩ : ∃ e0, Hid (twoE (rd ts) (rd us) = e0) := ⟨_, rfl⟩
  rw [apartT, HE.out] at hr
  have HR : Hid ((if e0 = 0 then Rt.mkT (apS (tot (rd ts)) (tot (rd us)) (mrgP (rd ts) (rd us))) (tot (rd ts) * tot (rd us)) else (0, 0, e0)) = (n, m, er)) := hr
  clear hr
  obtain ⟨W, hW⟩ : ∃ W, w.alloc (.cells #[.int .i64 0, .int .i64 0] 34) = W := ⟨_, rfl⟩
  have HW : Hid (Below w.heap.size w W) := hW ▸ ba w _
  have hWs : W.heap.size = w.heap.size + 1 := by rw [← hW]; simp
  have p1 : W.cell? ⟨w.heap.size, 0, none⟩ = some (.int .i64 0) := by rw [← hW]; simp [go_sem]
  have p2 : W.cell? ⟨w.heap.size, 1, none⟩ = some (.int .i64 0) := by rw [← hW]; simp [go_sem]
  have p3 : W.frozen? ⟨w.heap.size, 0, none⟩ = false := by rw [← hW]; simp [go_sem]
  have p4 : W.frozen? ⟨w.heap.size, 1, none⟩ = false := by rw [← hW]; simp [go_sem]
  refine (callsIn_wide (n := 5)).1 ?_
  refine callsIn_of_wp_marks Try.func29 rfl trivial ?_ rfl
  simp only [Try.ntmps29, List.size_toArray, List.length_cons, List.length_nil, Nat.reduceAdd, Nat.reduceSub, Array.replicate_succ, Array.replicate_zero, List.push_toArray, List.append_toArray, List.nil_append, List.cons_append]
  gi_wp2_with fail
  clear hW
  refine ⟨trivial, ?_⟩
  refine (callsIn_wide.2 (ownTwo_any B _ _ ts us W (by omega) (HP.out.at hB HW.out) (HQ.out.at hB HW.out) e0 HE.out)).mono ?_
  rintro e w1 ⟨a1, n1, c1, a2, n2, c2, rfl, hb1, hok⟩
  have lw : w.heap.size < W.heap.size := by omega
  obtain ⟨hc1, hf1⟩ := bcell hb1
  have q1 := (hc1 _ 0 lw).trans p1
  have q2 := (hc1 _ 1 lw).trans p2
  have q3 := (hf1 _ 0 lw).trans p3
  have q4 := (hf1 _ 1 lw).trans p4
  have hbw : Below w.heap.size w w1 := bt HW.out hb1
  have hs1 := hb1.size
  clear p1 p2 p3 p4 hc1 hf1 hb1
  by_cases h0 : e0 = 0
  · subst h0
    obtain ⟨x1, x2, hd1, hd2, hp1, hp2⟩ := hok rfl
    obtain ⟨hdi1, hdi2⟩ := twoE_ok HE.out
    have hmk := HR.out
    rw [if_pos rfl] at hmk
    obtain ⟨Ta, hTa⟩ : ∃ T, tot (rd ts) = T := ⟨_, rfl⟩
    obtain ⟨Tb, hTb⟩ : ∃ T, tot (rd us) = T := ⟨_, rfl⟩
    rw [hTa, hTb] at hmk
    have hTa1 : Ta ≤ 1073741824 := by rw [← hTa]; exact hdi1.le
    have hTb1 : Tb ≤ 1073741824 := by rw [← hTb]; exact hdi2.le
    have hTa0 : 0 < Ta := by rw [← hTa]; exact tot_pos2 hdi1.pos hdi1.ne
    have hTb0 : 0 < Tb := by rw [← hTb]; exact tot_pos2 hdi2.pos hdi2.ne
    have HX1 : Hid (Parts w1 w1.heap.size (.slice a1 n1 c1) x1) := hp1
    have HX2 : Hid (Parts w1 w1.heap.size (.slice a2 n2 c2) x2) := hp2
    have HM : Hid (Rt.mkT (apS Ta Tb (mrgP (rd ts) (rd us))) (Ta * Tb) = (n, m, er) ∧ rd x1 = rd ts ∧ rd x2 = rd us ∧ Dis (rd ts) ∧ Dis (rd us) ∧ tot (rd ts) = Ta ∧ tot (rd us) = Tb) := ⟨hmk, hd1, hd2, hdi1, hdi2, hTa, hTb⟩
    clear hok hp1 hp2 hdi1 hdi2 hmk hd1 hd2 hTa hTb HR HE
    gi_wp2_with fail
    refine ⟨trivial, ?_⟩
    refine (callsIn_wide.2 (total_any w1.heap.size _ x1 w1 (Nat.le_refl _) HX1.out (by rw [HM.out.2.1]; exact Nn.of_pos HM.out.2.2.2.1.pos) (by rw [HM.out.2.1, HM.out.2.2.2.2.2.1]; omega) Ta (by rw [HM.out.2.1, HM.out.2.2.2.2.2.1]))).mono ?_
    rintro e w2 ⟨rfl, hb2⟩
    gi_wp2_with fail
    refine ⟨trivial, ?_⟩
    refine (callsIn_wide.2 (total_any w1.heap.size _ x2 w2 hb2.size (HX2.out.at (Nat.le_refl _) hb2) (by rw [HM.out.2.2.1]; exact Nn.of_pos HM.out.2.2.2.2.1.pos) (by rw [HM.out.2.2.1, HM.out.2.2.2.2.2.2]; omega) Tb (by rw [HM.out.2.2.1, HM.out.2.2.2.2.2.2]))).mono ?_
    rintro e w3 ⟨rfl, hb3⟩
    have hb13 : Below w1.heap.size w1 w3 := bt hb2 hb3
    clear hb2 hb3
    gi_wp2_with fail
    refine ⟨trivial, ?_⟩
    refine (pairs_in _ _ _ _ _ _ _ _).mono ?_
    rintro e w4 ⟨rfl, hw4⟩
    gi_wp2_with fail
    clear hw4
    obtain ⟨W0, hW0⟩ : ∃ W0, ((((w3.alloc (Obj.cells #[Value.int IntKind.i64 Ta] 3)).alloc (Obj.cells #[Value.int IntKind.i64 Tb] 3)).alloc (Obj.cells #[Value.int IntKind.i64 0] 3)).alloc (Obj.cells #[Value.slice a1 n1 c1] 23)).alloc (Obj.cells #[Value.slice a2 n2 c2] 23) = W0 := ⟨_, rfl⟩
    have hsz : W0.heap.size = w3.heap.size + 5 := by rw [← hW0]; simp
    have g1 : W0.cell? ⟨w3.heap.size, 0, none⟩ = some (.int .i64 Ta) := by rw [← hW0]; simp [go_sem]
    have g2 : W0.cell? ⟨w3.heap.size + 1, 0, none⟩ = some (.int .i64 Tb) := by rw [← hW0]; simp [go_sem]
    have g3 : Boxed W0 (w3.heap.size + 1 + 1) 3 (.int .i64 0) := by
      have := ((Boxed.new ((w3.alloc (Obj.cells #[Value.int IntKind.i64 Ta] 3)).alloc (Obj.cells #[Value.int IntKind.i64 Tb] 3)) 3 (.int .i64 0)).alloc (Obj.cells #[Value.slice a1 n1 c1] 23)).alloc (Obj.cells #[Value.slice a2 n2 c2] 23)
      rw [hW0] at this
      simpa using this
    have g4 : W0.cell? ⟨w3.heap.size + 1 + 1 + 1, 0, none⟩ = some (.slice a1 n1 c1) := by rw [← hW0]; simp [go_sem]
    have g5 : W0.cell? ⟨w3.heap.size + 1 + 1 + 1 + 1, 0, none⟩ = some (.slice a2 n2 c2) := by rw [← hW0]; simp [go_sem]
    have hb30 : Below w3.heap.size w3 W0 := by rw [← hW0]; exact bal (bal (bal (bal (ba _ _) _) _) _) _
    have hb10 : Below w1.heap.size w1 W0 := bt hb13 hb30
    have hs13 := hb13.size
    have hX1 : Parts W0 (w3.heap.size + 1 + 1) (.slice a1 n1 c1) x1 := (HX1.out.at (Nat.le_refl _) hb10).mono (by omega)
    have hX2 : Parts W0 (w3.heap.size + 1 + 1) (.slice a2 n2 c2) x2 := (HX2.out.at (Nat.le_refl _) hb10).mono (by omega)
    have hm1 : ∀ t ∈ x1, 0 ≤ t.2.2 ∧ t.2.2 ≤ (1073741824 : Int) := by
      intro t ht
      have hmem : t.2 ∈ rd ts := by rw [← HM.out.2.1]; exact List.mem_map_of_mem (f := fun t : Tr => t.2) ht
      have h1 := HM.out.2.2.2.1.pos _ hmem
      have h2 := Pos.le_tot (Nn.of_pos HM.out.2.2.2.1.pos) hmem
      have h3 := HM.out.2.2.2.1.le
      omega
    have hm2 : ∀ t ∈ x2, 0 ≤ t.2.2 ∧ t.2.2 ≤ (1073741824 : Int) := by
      intro t ht
      have hmem : t.2 ∈ rd us := by rw [← HM.out.2.2.1]; exact List.mem_map_of_mem (f := fun t : Tr => t.2) ht
      have h1 := HM.out.2.2.2.2.1.pos _ hmem
      have h2 := Pos.le_tot (Nn.of_pos HM.out.2.2.2.2.1.pos) hmem
      have h3 := HM.out.2.2.2.2.1.le
      omega
    rw [hW0]
    clear hW0
    refine wpIn_rangeFunc_ownH rfl (by decide) (gf := 96) (lb := #[.pointer (some ⟨w3.heap.size + 1 + 1 + 1, 0, none⟩), .pointer (some ⟨w3.heap.size + 1 + 1 + 1 + 1, 0, none⟩)]) rfl trivial (enters_of Try.func96 (by kernel_rfl) rfl)
      (pairs_stops 4 (by decide) (w3.heap.size + 1 + 1 + 1) (w3.heap.size + 1 + 1 + 1 + 1) (w3.heap.size + 1 + 1) 1073741824 (by decide) (.slice a1 n1 c1) (.slice a2 n2 c2) x1 x2 W0 (by omega) (by omega) (by omega) g4 g5 hX1 hX2 hm1 hm2) belowK_t (belowK_b (by omega)) (Below.refl _ _) (fun _ => rfl)
      (fun pre W => Boxed W (w3.heap.size + 1 + 1) 3 (.int .i64 (wrap64 (sumPP Ta Tb pre))) ∧ Below (w3.heap.size + 1 + 1) W0 W)
      (fun _ _ _ => False)
      (OwnFrom.and (Own.from (boxed_own _ _ _) _) (ownFrom_below (by omega) (by omega)))
      (fun _ _ _ _ _ hs _ _ => hs)
      ⟨by show Boxed W0 _ 3 (.int .i64 (wrap64 0)); rw [wrap_id (by omega)]; exact g3, Below.refl _ _⟩
      (fun x act W => ∃ Bx, W0.heap.size ≤ Bx ∧ Two2 W Bx x ∧ act = { tmps := #[.slice a1 n1 c1, .slice a2 n2 c2, undef, undef, .pointer (some ⟨w.heap.size, 0, none⟩), .int .i64 0, .int .i64 0, .pointer (some ⟨w3.heap.size, 0, none⟩), .pointer (some ⟨w3.heap.size + 1, 0, none⟩), .pointer (some ⟨w3.heap.size + 1 + 1, 0, none⟩), .pointer (some ⟨Bx, 0, none⟩), .pointer (some ⟨Bx + 1, 0, none⟩), .tuple #[.slice a1 n1 c1, .slice a2 n2 c2, .int .i64 0], .slice a ts.length c, .slice a' us.length c', .tuple #[.slice a1 n1 c1, .slice a2 n2 c2, .int .i64 0], .slice a1 n1 c1, .slice a2 n2 c2, .int .i64 0, .int .i64 0, .bool false, undef, undef, .slice a1 n1 c1, .int .i64 Ta, .slice a2 n2 c2, .int .i64 Tb, .slice a1 n1 c1, .slice a2 n2 c2, .func (.func 96) #[] #[.pointer (some ⟨w3.heap.size + 1 + 1 + 1, 0, none⟩), .pointer (some ⟨w3.heap.size + 1 + 1 + 1 + 1, 0, none⟩)], .agg #[x.1.1.1, .int .i64 x.1.1.2.2], .agg #[x.1.2.1, .int .i64 x.1.2.2.2], undef, undef, undef, undef, undef, undef, undef, undef, undef, undef, undef, undef, undef, undef, undef, undef, undef, undef, undef], defers := [] })
      (fun x act _ X Y row hs hg hr => by obtain ⟨Bx, h1, h2, h3⟩ := hs; exact ⟨Bx, h1, h2.own hg (fun r e => (hr r e).2), h3⟩)
      ?assign ?body ?done ?stop
    case assign =>
      rintro l pre x W K ⟨bU, hB1⟩ hK
      have hs := hB1.size
      obtain ⟨⟨⟨xv, xo, xk⟩, ⟨yv, yo, yk⟩⟩, hx⟩ := x
      obtain ⟨sa, sc, e1, _⟩ := hx.1
      obtain ⟨sa', sc', e2, _⟩ := hx.2.1
      simp only at e1 e2
      subst e1 e2
      simp only [encPP]
      gi_wp2
      exact hK _ _ (((KeepsOthers.alloc _ _).trans (KeepsOthers.alloc _ _)).from _) (((Below.refl _ W).alloc (by omega) _).alloc (by simp; omega) _) ⟨(bU.alloc _).alloc _, (hB1.alloc (by omega) _).alloc (by simp; omega) _⟩ ⟨W.heap.size, hs, two2_new W ⟨((.slice sa xo.length sc, xo, xk), (.slice sa' yo.length sc', yo, yk)), hx⟩, rfl⟩
    case body =>
      rintro l pre x act W hl ⟨r, hr⟩ ⟨bU, hB1⟩ ⟨Bx, hBx, bX, rfl⟩ hlt
      have HXX : Hid (Two2 W Bx x) := bX
      obtain ⟨k1, k2, k3, k4⟩ := bX.cells
      have cU := bU.cell
      have fU := bU.frozen
      have h1 := (hB1.cell (p := ⟨w3.heap.size, 0, none⟩) (by show w3.heap.size < w3.heap.size + 1 + 1; omega)).trans g1
      have h2 := (hB1.cell (p := ⟨w3.heap.size + 1, 0, none⟩) (by show w3.heap.size + 1 < w3.heap.size + 1 + 1; omega)).trans g2
      obtain ⟨⟨⟨xv, xo, xk⟩, ⟨yv, yo, yk⟩⟩, hx⟩ := x
      obtain ⟨_, _, ⟨hx1, hx2⟩, ⟨hy1, hy2⟩⟩ := hx
      simp only at hx1 hx2 hy1 hy2 k2 k4
      have b1 : 0 ≤ xk * Tb ∧ xk * Tb ≤ 1152921504606846976 := Rt.mul_bd hx1 hx2 (by omega) hTb1
      have b2 : 0 ≤ yk * Ta ∧ yk * Ta ≤ 1152921504606846976 := Rt.mul_bd hy1 hy2 (by omega) hTa1
      obtain ⟨Z, hZ⟩ : ∃ Z, sumPP Ta Tb pre = Z := ⟨_, rfl⟩
      rw [hZ] at cU bU
      have HZ : Hid (sumPP Ta Tb pre = Z) := hZ
      clear hZ
      gi_wp2
      refine ⟨(KeepsOthers.setCell _ _ _).from _, (Below.refl _ W).setCell (p := ⟨w3.heap.size + 1 + 1, 0, none⟩) (Nat.le_refl _) _, ?_, hB1.setCell (p := ⟨w3.heap.size + 1 + 1, 0, none⟩) (Nat.le_refl _) _⟩
      rw [show ∀ x, wrap64 (sumPP Ta Tb (pre ++ [x])) = wrap64 (wrap64 Z + max 0 (x.1.1.2.2 * Tb - x.1.2.2.2 * Ta)) from fun x => by rw [sumPP_snoc, HZ.out, wrap_wrap]]
      exact bU.set _
    case done =>
      rintro D ys W hD hS ⟨bU, hB1⟩ hK
      have hup : sumPP Ta Tb ys = apS Ta Tb (mrgP (rd ts) (rd us)) := by
        rw [← HM.out.2.1, ← HM.out.2.2.1, ← mrg_rd, ← hS, sumPP, List.map_map]; rfl
      obtain ⟨U, hU⟩ : ∃ U, apS Ta Tb (mrgP (rd ts) (rd us)) = U := ⟨_, rfl⟩
      have hU0 : 0 ≤ U := by rw [← hU]; exact apS_nn _ _ _
      have hU1 : U ≤ 1152921504606846976 := by
        have h1 := apS_le (Ta := Ta) (Tb := Tb) (Nn.of_pos HM.out.2.2.2.1.pos) (Nn.of_pos HM.out.2.2.2.2.1.pos) (by omega) (by omega)
        rw [hU, HM.out.2.2.2.2.2.1] at h1
        have h2 := (Rt.mul_bd (a := Ta) (b := Tb) (by omega) hTa1 (by omega) hTb1).2
        omega
      rw [hup, hU, wrap_id (by omega)] at bU
      have cU := bU.cell
      have h1 := (hB1.cell (p := ⟨w3.heap.size, 0, none⟩) (by show w3.heap.size < w3.heap.size + 1 + 1; omega)).trans g1
      have h2 := (hB1.cell (p := ⟨w3.heap.size + 1, 0, none⟩) (by show w3.heap.size + 1 < w3.heap.size + 1 + 1; omega)).trans g2
      have hbW : Below w1.heap.size w1 W := hb10.trans (hB1.mono (by omega))
      have lw1 : w.heap.size < w1.heap.size := by omega
      obtain ⟨hc5, hf5⟩ := bcell hbW
      have r1 := (hc5 _ 0 lw1).trans q1
      have r2 := (hc5 _ 1 lw1).trans q2
      have r3 := (hf5 _ 0 lw1).trans q3
      have r4 := (hf5 _ 1 lw1).trans q4
      have bT := Rt.mul_bd (a := Ta) (b := Tb) (by omega) hTa1 (by omega) hTb1
      obtain ⟨P, hP⟩ : ∃ P, Ta * Tb = P := ⟨_, rfl⟩
      rw [hP] at bT
      have hmk := HM.out.1
      rw [hU, hP] at hmk
      have km := fun W => rmake_any U P n m er (by omega) (by omega) hmk W
      have hbb : Below w.heap.size w W := hbw.trans (hbW.mono (by omega))
      have HK : Hid (W.heap[D]? = some (.deferred (some []))) := hK
      clear hc5 hf5 hmk hup hU hS hK
      gi_wp2_with fail
      refine ⟨trivial, ?_⟩
      refine (callsIn_wide.2 (km _)).mono ?_
      rintro e w5 ⟨rfl, hb5⟩
      obtain ⟨hc6, hf6⟩ := bcell hb5
      have lw6 : w.heap.size < W.heap.size := by have := hbb.size; have := hbW.size; omega
      have t1 := (hc6 _ 0 lw6).trans r1
      have t2 := (hc6 _ 1 lw6).trans r2
      have t3 := (hf6 _ 0 lw6).trans r3
      have t4 := (hf6 _ 1 lw6).trans r4
      have HK5 : Hid (w5.heap[D]? = some (.deferred (some []))) := by rw [Hid, hb5.block D (Array.getElem?_eq_some_iff.1 HK.out).1]; exact HK.out
      clear hc6 hf6 r1 r2 r3 r4 km
      gi_wp2
      obtain ⟨W7, hW7⟩ : ∃ W7, (w5.setCell ⟨w.heap.size, 0, none⟩ (.int .i64 n)).setCell ⟨w.heap.size, 1, none⟩ (.int .i64 m) = W7 := ⟨_, rfl⟩
      have HK7 : W7.heap[D]? = some (.deferred (some [])) := by
        rw [← hW7]
        exact (KeepsOthers.setCell _ _ _).same D _ ((KeepsOthers.setCell _ _ _).same D _ HK5.out rfl) rfl
      have u1 : W7.cell? ⟨w.heap.size, 0, none⟩ = some (.int .i64 n) := by rw [← hW7]; exact (sc_other (by simp)).trans (sc_same t1)
      have u2 : W7.cell? ⟨w.heap.size, 1, none⟩ = some (.int .i64 m) := by rw [← hW7]; exact sc_same (u := .int .i64 0) ((sc_other (by simp)).trans t2)
      have hb7 : Below w.heap.size w W7 := by rw [← hW7]; exact bs (bs (bt hbb hb5) (Nat.le_refl _) _) (Nat.le_refl _) _
      rw [hW7]
      refine ⟨by simp, .inl ⟨_, _, rfl, run_takeDeferred HK7, ?_⟩⟩
      have v1 := cell_kept u1 (grownBy_putObj' _ D (.deferred none)) (fun r e => by cases e; exact ⟨_, HK7, rfl⟩)
      have v2 := cell_kept u2 (grownBy_putObj' _ D (.deferred none)) (fun r e => by cases e; exact ⟨_, HK7, rfl⟩)
      exact ⟨.tuple #[rv n m, .int .i64 er], by simp [results, Try.results29, go_sem, v1, v2], rfl, hb7.trans (belowK_b (w := w) (Nat.le_refl _) W7 D _ _ (by omega) HK7 rfl rfl)⟩
    case stop =>
      rintro D c pre W _ _ h _
      exact h.elim
  · have h3 := HR.out
    rw [if_neg h0] at h3
    simp only [Prod.mk.injEq] at h3
    obtain ⟨rfl, rfl, rfl⟩ := h3
    have h0' : (e0 == 0) = false := by simpa using h0
    have h0'' : (e0 != 0) = true := by simpa using h0
    gi_wp2
    exact ⟨.tuple #[rv 0 0, .int .i64 e0], by simp [results, Try.results29, go_sem, q1, q2], rfl, bs (bs hbw (Nat.le_refl _) _) (Nat.le_refl _) _⟩
end Go.Proofs.Ytdcdjjemndadaaa
