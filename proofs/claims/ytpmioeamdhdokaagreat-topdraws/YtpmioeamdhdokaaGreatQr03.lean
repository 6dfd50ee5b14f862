import Derived.Test.YtpmioeamdhdokaaGreatQr02
namespace Go.Proofs.YtpmioeamdhdokaaGreat
open Go.RowKit Go.Proofs.YtpmioeamdhdokaaGreat.Ds

theorem rowI_ints {w : World} {g : Nat} {xs : List Int} (h : K.RowI w g xs) (hl : xs.length ≤ 1073741824) : ∀ m, m < g → Ints w w.heap.size m (.slice (some ⟨g, 0, none⟩) xs.length xs.length) xs :=
  fun m hm => ⟨_, _, rfl, Nat.le_refl _, hl, fun _ => ⟨g, 0, rfl, h.lt, by omega, fun i x hi => by rw [Nat.zero_add]; exact h.cells i x hi⟩⟩

/-- as far as one has come -/
def Digd (j L : Nat) (n : Nat) (k : Nat) (xs : List Int) : Prop := xs.length = L ∧ k ≤ L ∧ dg j L = dg n k ++ xs.drop k
theorem Digd.start (j L : Nat) : Digd j L j L (List.replicate L 0) := ⟨by simp, Nat.le_refl _, by simp⟩
theorem Digd.step {j L n k : Nat} {xs : List Int} (h : Digd j L n (k + 1) xs) : Digd j L (n / 2) k (xs.set k ((n % 2 : Nat) : Int)) := by
  obtain ⟨h1, h2, h3⟩ := h
  refine ⟨by simpa using h1, by omega, ?_⟩
  rw [h3]
  simp only [dg]
  rw [List.append_assoc, List.drop_eq_getElem_cons (l := xs.set k _) (i := k) (by simp; omega)]
  simp [List.drop_set_of_lt]

set_option maxHeartbeats 1000000 in
theorem digits_any (j L : Nat) (w : World) (hL : L ≤ 9) (hj : j ≤ 4611686018427387904) :
    Calls Tryz.prog 24 #[.int .i64 (j : Int), .int .i64 (L : Int)] w fun e w' => (∃ a c, e = .returned (.slice a (dg j L).length c) ∧ (a = none → c = 0) ∧ ∀ m, m < w.heap.size → Ints w' w'.heap.size m (.slice a (dg j L).length c) (dg j L)) ∧ Below w.heap.size w w' := by
  have hmk := K.make_ints L (by omega)
  go_enter Tryz.func24, Tryz.ntmps24
  go_wp2
  go_loopw [0, 6] (fun nv iv wr => ∃ (n k : Nat) (xs : List Int), nv = .int .i64 (n : Int) ∧ iv = .int .i64 ((k : Int) - 1) ∧ n ≤ 4611686018427387904 ∧ k ≤ L ∧ Hid (Digd j L n k xs) ∧ Hid (K.RowI wr w.heap.size xs) ∧ Below w.heap.size w wr) (fun _ iv _ => (intOf iv + 1).toNat)
  case atStart => exact ⟨j, L, List.replicate L 0, rfl, by go_num, hj, Nat.le_refl _, Digd.start j L, K.RowI.made _ _, ba _ _⟩
  case round =>
    obtain ⟨n, k, xs, rfl, rfl, hn, hk, HD, HR, hbl⟩ := hrel
    have hxl : Hid (xs.length = L) := HD.out.1
    cases k with
    | zero =>
      have HX : Hid (xs = dg j L) := by have := HD.out.2.2; simpa [dg, Hid] using this.symm
      go_wp2
      go_ret
      obtain rfl : xs = dg j L := HX.out
      have := rowI_ints HR.out (by have := hxl.out; omega)
      rw [hxl.out] at this
      refine ⟨⟨some ⟨w.heap.size, 0, none⟩, L, ?_, (fun h => by cases h), fun m hm => by rw [hxl.out]; exact this m hm⟩, hbl⟩
      rw [hxl.out]
      rfl
    | succ k =>
      obtain ⟨x, hx⟩ := get_lt (l := xs) (i := k) (by have := hxl.out; omega)
      have c1 := HR.out.cells k x hx
      have c2 := HR.out.thaw k (by have := hxl.out; omega)
      have HD2 : Hid (Digd j L (n / 2) k (xs.set k ((n % 2 : Nat) : Int))) := HD.out.step
      have y1 : (k : Int) < (L : Int) := by omega
      clear hx
      go_wp2
      go_roundw
      case rel => exact ⟨n / 2, k, xs.set k ((n % 2 : Nat) : Int), by go_num, by go_num, by omega, by omega, HD2, HR.out.set k ((n % 2 : Nat) : Int), bs hbl (p := ⟨w.heap.size, k, none⟩) (Nat.le_refl _) _⟩
      case measure => simp [intOf]
end Go.Proofs.YtpmioeamdhdokaaGreat
namespace Go.Proofs.YtpmioeamdhdokaaGreat.K.P
open Go.RowKit Go.Proofs.YtpmioeamdhdokaaGreat.K.Ds

/-- what a power of what is right and at least 1 is -/
theorem pow_okR {u d n p q : Int} (h : Rt.rightB u d = true) (h1 : d ≤ u) (hp : Rt.powT u d n = (p, q, 0)) : OkR (p, q) := by
  have hb := Rt.right_bd h
  obtain ⟨x, rfl⟩ : ∃ x : Nat, u = x := ⟨u.toNat, by omega⟩
  obtain ⟨y, rfl⟩ : ∃ y : Nat, d = y := ⟨d.toNat, by omega⟩
  by_cases c : n < 0 ∨ 4096 < n
  · unfold Rt.powT at hp
    rw [if_pos h, if_pos c] at hp
    simp at hp
  obtain ⟨m, rfl⟩ : ∃ m : Nat, n = m := ⟨n.toNat, by omega⟩
  rcases Rt.powT_of x y m h (by omega) p q 0 hp with ⟨_, _, _, h4⟩ | ⟨h2, h3, rfl, rfl, _⟩
  · omega
  · obtain ⟨k1, k2, k3, k4⟩ := (Rt.right_nat x y).1 h
    refine ⟨(Rt.right_nat _ _).2 ⟨h2, Nat.pow_pos k2, h3, Nat.Coprime.pow _ _ k4⟩, ?_⟩
    show ((y ^ m : Nat) : Int) ≤ ((x ^ m : Nat) : Int)
    exact Int.ofNat_le.2 (Nat.pow_le_pow_left (by omega) m)
/-- what is spent then: too much, or it can be told -/
theorem spent_err {done : List En} (h : Inv done) {e : En} (he : e.1 = 2 ∨ e.1 = 3) (ho : OkR e.2.2.2) : (spentT (done ++ [e]) e.2.1).2 = 0 ∨ (spentT (done ++ [e]) e.2.1).2 = 4 := by
  rcases he with he | he
  · rcases spent_all h he ho with ⟨_, h2⟩ | ⟨_, h2, _, h4⟩
    · rw [h2]; exact .inr rfl
    · rw [h4]
      rcases mul_cases h2 (h.top e.2.1).2.ok with ⟨k, _⟩ | k
      · exact .inl k
      · rw [k]; exact .inr rfl
  · rcases spent_part h he ho with ⟨_, h2⟩ | ⟨_, _, _, h4, m, h5⟩
    · rw [h2]; exact .inr rfl
    · rw [h4 m h5]
      rcases mul_cases (h.all e.2.1).2 h5.ok with ⟨k, _⟩ | k
      · exact .inl k
      · rw [k]; exact .inr rfl
theorem do_err {done : List En} (h : Inv done) {e : En} {b : Rq} (hl : done.length < 4096) (hb : budT done e.2.1 = some b) (hbad : badT e = 0) (he : e.1 = 2 ∨ (e.1 = 3 ∧ 0 ≤ e.2.2.1 ∧ e.2.2.1 ≤ 1073741824)) (hp : (parT (done ++ [e]) e.2.1).length ≤ 64) :
    doT done e = 0 ∨ doT done e = 4 ∨ doT done e = 10 := by
  have hs := spent_err h (he.imp id And.left) (bad_ok hbad).2.2.2
  unfold doT
  rw [if_neg (by simpa using hbad), if_neg (by omega), hb]
  simp only
  rw [if_neg (by omega), if_neg (by omega), if_neg (by omega)]
  by_cases c : (spentT (done ++ [e]) e.2.1).2 = 0
  · rw [if_neg (by simpa using c)]
    split
    · exact .inl rfl
    · exact .inr (.inr rfl)
  · rw [if_pos c]
    omega
theorem once_len : ∀ (ps out : List Int), (onceT out ps).length ≤ out.length + ps.length
  | [], out => by simp [onceT]
  | p :: ps, out => by
    unfold onceT
    split
    · have := once_len ps out; simp; omega
    · have := once_len ps (out ++ [p]); simp at this; simp; omega
theorem put_free : ∀ (ws : List (Nat × Int)) (disk : List Int), (putT disk (-1) ws).2 = (-1, true)
  | [], disk => rfl
  | (a, x) :: r, disk => by
    unfold putT
    rw [if_neg (by decide), if_neg (by decide)]
    exact put_free r _
/-- with power that does not end -/
theorem does_free {s : HSt} {e : En} (hl : s.left = -1) (hd : 9 * s.done.length + 9 ≤ s.disk.length) :
    (doesT s e).2 = doT s.done (nrm e) ∧ (doesT s e).1.left = -1 := by
  unfold doesT
  rw [if_neg (by omega)]
  by_cases c : doT s.done (nrm e) = 0
  · rw [if_neg (by simpa using c), hl]
    have := put_free (wrs s.done.length (nrm e)) s.disk
    rw [if_pos (by rw [this])]
    exact ⟨c.symm, by simp [this]⟩
  · rw [if_pos c]
    exact ⟨rfl, hl⟩
end Go.Proofs.YtpmioeamdhdokaaGreat.K.P
namespace Go.Proofs.YtpmioeamdhdokaaGreat
open Go.RowKit Go.Proofs.YtpmioeamdhdokaaGreat.Ds
theorem lost_okR {u d n p q : Int} (h : lostT u d n = (p, q, 0)) : K.P.OkR (p, q) := by
  unfold lostT at h
  by_cases c : lossE u d = 0
  · rw [if_neg (by simpa using c)] at h
    obtain ⟨h1, h2, _⟩ := loss_ok c
    exact K.P.pow_okR h1 h2 h
  · rw [if_pos c] at h
    simp only [Prod.mk.injEq] at h
    exact absurd h.2.2 c
/-- what an answer tells: the loss is right -/
theorem ans_okR {u d lo hi lu ld : Int} {l : List K.Ds.Col} {ts : List (List Int)} {q : K.Ds.Qu} {ls : List (List Pt)} (h : ansT u d lo hi l ts q = (ls, lu, ld, 0)) : K.P.OkR (lu, ld) := by
  unfold ansT at h
  split at h
  · rename_i c; simp only [Prod.mk.injEq] at h; exact absurd h.2.2.2 c
  split at h
  · rename_i c; simp only [Prod.mk.injEq] at h; exact absurd h.2.2.2 c
  split at h
  · rename_i c; simp only [Prod.mk.injEq] at h; exact absurd h.2.2.2 c
  · rename_i c
    simp only [Prod.mk.injEq] at h
    obtain ⟨_, h2, h3, _⟩ := h
    have c' : (lostT u d (K.typV (K.typ l q)).1.2.1).2.2 = 0 := by simpa using c
    exact lost_okR (u := u) (d := d) (n := (K.typV (K.typ l q)).1.2.1) (by rw [← h2, ← h3, ← c'])
open K.P in
theorem draws_run {l : List K.Ds.Col} {ts : List (List Int)} {x1 x2 x3 : Stp} {lu ld : Int} {ls : List (List Pt)} (h1 : x1.act = 1) (h2 : x2.act = 2) (h3 : x3.act = 3) (hn : x2.nm = x3.pn) (hw : K.Ds.wroE l ts = 0)
    (hA : ansT x3.u x3.d x3.lo x3.hi l ts x3.q = (ls, lu, ld, 0)) (hb : wrB x3.bits 0 = 0) :
    ∃ s y1 y2 y3, runP l ts ⟨List.replicate 30 0, -1, false, false, []⟩ [x1, x2, x3] = (s, [y1, y2, y3]) ∧
      (y2.err ≠ 0 ∨ y3.err = 4 ∨ y3.err = 10 ∨ (drwT ls x3.bits 0 [] = none ∧ y3.err = 6) ∨ ∃ vs us, drwT ls x3.bits 0 [] = some (vs, us) ∧ y3.err = 0 ∧ y3.told = some (vs, us, lu, ld)) := by
  obtain ⟨S1, hS1⟩ : ∃ S1 : HSt, S1 = ⟨List.replicate 30 0, -1, true, false, []⟩ := ⟨_, rfl⟩
  have e1 : stepP l ts ⟨List.replicate 30 0, -1, false, false, []⟩ x1 = (S1, ⟨0, none, []⟩) := by
    unfold stepP evT
    rw [if_neg (fun h => by omega), if_pos h1, hw, hS1]
    simp only [stepH]
    rw [liesT_is (lies_blank 30)]
    rfl
  obtain ⟨S2, er2, hS2⟩ : ∃ S2 er2, doesT S1 (1, x2.nm, 0, x2.bu, x2.bd) = (S2, er2) := ⟨_, _, rfl⟩
  have e2 : stepP l ts S1 x2 = (S2, ⟨er2, none, []⟩) := by
    unfold stepP evT
    rw [if_neg (fun h => by omega), if_neg (by omega), if_neg (by omega), if_pos h2]
    have u1 : S1.up = true := by rw [hS1]
    have u2 : S1.brk = false := by rw [hS1]
    simp only [stepH, u1, u2, hS2]
    rfl
  refine ⟨(stepP l ts S2 x3).1, ⟨0, none, []⟩, ⟨er2, none, []⟩, (stepP l ts S2 x3).2, by simp only [runP, e1, e2], ?_⟩
  by_cases c2 : er2 ≠ 0
  · exact .inl c2
  have c2 : er2 = 0 := by simpa using c2
  subst c2
  refine .inr ?_
  have d1 := does_cases hS2 (by rw [hS1]; exact ⟨lies_blank 30, hz_blank 30⟩)
  obtain ⟨b1, b2, b3, b4⟩ := d1
  have f1 := does_free (s := S1) (e := (1, x2.nm, 0, x2.bu, x2.bd)) (by rw [hS1]) (by rw [hS1]; simp)
  rw [hS2] at f1
  obtain ⟨f2, f3⟩ := f1
  have hdn : S2.done = S1.done ++ [nrm (1, x2.nm, 0, x2.bu, x2.bd)] ∧ S2.brk = false := by
    rcases b4 with ⟨_, q, r⟩ | ⟨q, _⟩ | ⟨q, _⟩
    · exact ⟨q, by rw [r, hS1]⟩
    · omega
    · exact absurd rfl q
  have hup : S2.up = true := by rw [b2, hS1]
  have hsz : S2.disk.length = 30 := by rw [b3, hS1]; simp
  have hd1 : S2.done = [(1, x2.nm, 0, x2.bu, x2.bd)] := by rw [hdn.1, hS1]; rfl
  have hdo : doT [] (1, x2.nm, 0, x2.bu, x2.bd) = 0 := by
    have : S1.done = [] := by rw [hS1]
    rw [this] at f2
    exact f2.symm
  have hinv : Inv S2.done := by rw [hd1]; exact inv_snoc inv_nil hdo rfl
  obtain ⟨z, ez, hz⟩ : ∃ z ez, K.prtV (K.prt l x3.q (nam0 l)) = (z, ez) := ⟨_, _, rfl⟩
  obtain ⟨zb1, zb2⟩ := prt_bd hz
  have hok := ans_okR hA
  have hnm := (bad_ok (doT_bad hdo).1).2.2.1
  obtain ⟨E, hE⟩ : ∃ E, E = priT x3.pn z ez lu ld := ⟨_, rfl⟩
  have E1 : (E.1 = 2 ∨ E.1 = 3) ∧ E.2.1 = x3.pn ∧ E.2.2.2 = (lu, ld) ∧ 0 ≤ E.2.2.1 ∧ E.2.2.1 ≤ 4096 := by
    rw [hE]; unfold priT
    split
    · exact ⟨.inr rfl, rfl, rfl, zb1, zb2⟩
    · exact ⟨.inl rfl, rfl, rfl, Int.le_refl _, (by decide : (0 : Int) ≤ 4096)⟩
  obtain ⟨g1, g2, g3, g4, g5⟩ := E1
  have k1 : (nrm E).1 = E.1 := nrm_1 E
  have k2 : (nrm E).2.1 = x3.pn := (nrm_n E).trans g2
  have k3 : (nrm E).2.2.2 = (lu, ld) := (nrm_l E).trans g3
  have k4 : 0 ≤ (nrm E).2.2.1 ∧ (nrm E).2.2.1 ≤ 1073741824 := by
    unfold nrm
    split
    · exact ⟨g4, by omega⟩
    · exact ⟨Int.le_refl _, (by decide : (0 : Int) ≤ 1073741824)⟩
  have hbad : badT (nrm E) = 0 := by
    unfold badT
    rw [if_neg (by omega), k2, k3, ← hn, if_pos ⟨hnm, hok.1⟩, if_neg (by have := hok.2; simp at this; simp; omega)]
  have hbud : budT S2.done (nrm E).2.1 = some (x2.bu, x2.bd) := by
    rw [hd1, k2, ← hn]
    simp [budT]
  have hpar : (parT (S2.done ++ [nrm E]) (nrm E).2.1).length ≤ 64 := by
    have q1 := once_len (prs (S2.done ++ [nrm E]) (nrm E).2.1) []
    have q2 : (prs (S2.done ++ [nrm E]) (nrm E).2.1).length ≤ 2 := by
      unfold prs
      rw [List.length_map]
      refine Nat.le_trans (List.length_filter_le _ _) ?_
      rw [hd1]; simp
    simp only [List.length_nil] at q1
    unfold parT
    omega
  have hdoE := do_err hinv (e := nrm E) (by rw [hd1]; simp) hbud hbad (by rw [k1]; rcases g1 with g | g; exact .inl g; exact .inr ⟨g, k4⟩) hpar
  have f4 := does_free (s := S2) (e := E) f3 (by rw [hd1, hsz]; simp)
  have e3 : (stepP l ts S2 x3).2.err = (stepH 0 S2 (.ask 0 E (drwT ls x3.bits 0 []))).2.err ∧ (stepP l ts S2 x3).2.told = ((stepH 0 S2 (.ask 0 E (drwT ls x3.bits 0 []))).2.told).map fun t => (t.1, t.2, lu, ld) := by
    unfold stepP evT
    rw [if_neg (fun h => by omega), if_neg (by omega), if_neg (by omega), if_neg (by omega), if_pos h3]
    unfold askE
    rw [hz, hA, hw]
    have hpre : preT 0 x3.bits = 0 := by unfold preT; rw [if_neg (by simp)]; exact hb
    simp only [hpre, ← hE]
    rw [step_map]
    exact ⟨rfl, rfl⟩
  rw [e3.1, e3.2]
  simp only [stepH, hup, hdn.2]
  by_cases c3 : (doesT S2 E).2 = 0
  · rw [if_neg (by decide), if_neg (by decide), if_neg (by simp), if_neg (by simpa using c3)]
    cases hdr : drwT ls x3.bits 0 [] with
    | none => exact .inr (.inr (.inl ⟨rfl, rfl⟩))
    | some t => exact .inr (.inr (.inr ⟨t.1, t.2, rfl, rfl, rfl⟩))
  · rw [if_neg (by decide), if_neg (by decide), if_neg (by simp), if_pos c3]
    rw [← f4.1] at hdoE
    rcases hdoE with g | g | g
    · exact absurd g c3
    · exact .inl g
    · exact .inr (.inl g)
end Go.Proofs.YtpmioeamdhdokaaGreat
namespace Go.Proofs.YtpmioeamdhdokaaGreat
open Go.RowKit Go.Proofs.YtpmioeamdhdokaaGreat.Ds
/-- one draw of one place -/
theorem draw_none {d : List Pt} {bits : List Int} (h : drwT [d] bits 0 [] = none) : roOut d bits = none := by
  unfold drwT at h
  unfold roOut
  rw [List.drop_zero] at h
  cases e : roN d bits with
  | none => rfl
  | some t =>
    obtain ⟨o, k, r⟩ := t
    rw [e] at h
    simp [drwT] at h
theorem draw_some {d : List Pt} {bits vs : List Int} {us : Nat} (hs : ∀ p ∈ d, ∃ z, p.1 = [z]) (h : drwT [d] bits 0 [] = some (vs, us)) : roOut d bits = some vs ∧ ∃ z, vs = [z] := by
  unfold drwT at h
  unfold roOut
  rw [List.drop_zero] at h
  cases e : roN d bits with
  | none => rw [e] at h; cases h
  | some t =>
    obtain ⟨o, k, r⟩ := t
    rw [e] at h
    simp [drwT] at h
    obtain ⟨p, hp, rfl⟩ := roN_mem e
    obtain ⟨z, hz⟩ := hs p hp
    rw [hz] at h ⊢
    exact ⟨by simpa using h.1, z, by simpa using h.1.symm⟩
end Go.Proofs.YtpmioeamdhdokaaGreat
namespace Go.Proofs.YtpmioeamdhdokaaGreat
open Go.RowKit Go.Shelf Go.Proofs.YtpmioeamdhdokaaGreat.Ds

theorem yieldsIf_build {P : Program} {ops : Array Oper} {S : World → Prop} {op : Oper} {a : Act} (hw : Region.wanted op (yielded ops a.tmps) = true) (t : TypeId) (parts : Array (Nat × Operand)) (ho : op.op = .build t parts)
    (cells : Array Value) (hf : P.built t (parts.map fun (i, x) => (i, a.eval x)).toList = some cells) : YieldsIf P ops S op (.agg cells) a :=
  .inl ⟨hw, fun w _ => by
    unfold execOp
    simp only [ho, Sem.run_bind, run_build w t _ cells hf, Result.andThen_ok, Sem.run_pure]⟩
theorem yieldsIf_build6 {P : Program} {ops : Array Oper} {S : World → Prop} {op : Oper} {a : Act} (hw : Region.wanted op (yielded ops a.tmps) = true) (t : TypeId) (n0 n1 n2 n3 n4 n5 : Nat) (x0 x1 x2 x3 x4 x5 : Operand) (ho : op.op = .build t #[(n0, x0), (n1, x1), (n2, x2), (n3, x3), (n4, x4), (n5, x5)])
    (v0 v1 v2 v3 v4 v5 : Value) (h0 : a.eval x0 = v0) (h1 : a.eval x1 = v1) (h2 : a.eval x2 = v2) (h3 : a.eval x3 = v3) (h4 : a.eval x4 = v4) (h5 : a.eval x5 = v5) (cells : Array Value) (hf : P.built t [(n0, v0), (n1, v1), (n2, v2), (n3, v3), (n4, v4), (n5, v5)] = some cells) : YieldsIf P ops S op (.agg cells) a :=
  yieldsIf_build hw t _ ho cells (by subst h0 h1 h2 h3 h4 h5; simpa using hf)
theorem ints_row {w : World} {N b : Nat} {v : Value} {xs : List Int} (h : ∀ m, m < N → Ints w w.heap.size m v xs) (hb : b < N) (ds : Array Value) : ∀ m, m < N → Ints (w.setRow b ds) (w.setRow b ds).heap.size m v xs := fun m hm => by
  obtain ⟨a, c, hv, h1, h2, hx⟩ := h m hm
  obtain ⟨a', c', hv', _, _, hx'⟩ := h b hb
  have e : a = a' := by rw [hv'] at hv; simp only [Value.slice.injEq] at hv; exact hv.1.symm
  subst e
  refine ⟨a, c, hv, h1, h2, fun hne => ?_⟩
  obtain ⟨b1, o1, ha, hl, hm1, hc⟩ := hx hne
  obtain ⟨b2, o2, ha', _, hm2, _⟩ := hx' hne
  have hbb : b1 = b2 := by rw [ha] at ha'; simp only [Option.some.injEq, Addr.mk.injEq] at ha'; exact ha'.1
  have hk : (w.setRow b ds).heap[b1]? = w.heap[b1]? := by
    unfold World.setRow
    simp [Array.getElem?_modify, show ¬ b = b1 by omega]
  refine ⟨b1, o1, ha, by simpa [World.setRow] using hl, hm1, fun i x hi => (World.cell?_of_block (w := w) (a := ⟨b1, o1 + i, none⟩) hk).trans (hc i x hi)⟩

theorem bl54 (k L : Nat) (xa : Option Addr) (xc : Nat) (v0 : Int) (v1 : ByteArray) (v2 v3 : Int) (a4 : Option Addr) (n4 c4 : Nat) (a5 : Option Addr) (n5 c5 : Nat) (u d lo hi : Int) : Tryz.prog.built 54 [(0, .string ⟨#[112]⟩), (1, .agg #[.int .i64 v0, .string v1, .int .i64 v2, .int .i64 v3, .slice a4 n4 c4, .slice a5 n5 c5]), (2, .agg #[.int .i64 u, .int .i64 d]), (3, .int .i64 lo), (4, .int .i64 hi), (5, .slice xa (dg k L).length xc)] = some ([.string ⟨#[112]⟩, .int .i64 v0, .string v1, .int .i64 v2, .int .i64 v3, .slice a4 n4 c4, .slice a5 n5 c5, .int .i64 u, .int .i64 d, .int .i64 lo, .int .i64 hi, .slice xa (dg k L).length xc]).toArray := by kernel_rfl
theorem one54 (k L : Nat) (xa : Option Addr) (xc : Nat) (v0 : Int) (v1 : ByteArray) (v2 v3 : Int) (a4 : Option Addr) (n4 c4 : Nat) (a5 : Option Addr) (n5 c5 : Nat) (u d lo hi : Int) : ∀ z ∈ ([.string ⟨#[112]⟩, .int .i64 v0, .string v1, .int .i64 v2, .int .i64 v3, .slice a4 n4 c4, .slice a5 n5 c5, .int .i64 u, .int .i64 d, .int .i64 lo, .int .i64 hi, .slice xa (dg k L).length xc] : List Value), z.oneCell' = true := by
  intro z hz
  simp only [List.mem_cons, List.not_mem_nil, or_false] at hz
  rcases hz with rfl | rfl | rfl | rfl | rfl | rfl | rfl | rfl | rfl | rfl | rfl | rfl <;> rfl

end Go.Proofs.YtpmioeamdhdokaaGreat
