import Derived.Test.YtnoedkebmpfagaaWsv
/-
  PACKAGE plain: Crumbs.
-/
namespace Go.Proofs.Ytnoedkebmpfagaa
open Go.RowKit Wc

/-- texts behind a slice, however many -/
def Stl (w : World) (B : Nat) (v : Value) (l : List By) : Prop :=
  ∃ a c, v = .slice a l.length c ∧ l.length ≤ c ∧ l.length ≤ 9223372036854775807 ∧
    (l ≠ [] → ∃ b o, a = some ⟨b, o, none⟩ ∧ b < B ∧ ∀ (i : Nat) (s : By), l[i]? = some s → w.cell? ⟨b, o + i, none⟩ = some (.string (tx s)))
theorem Stl.keep {w w' : World} {B : Nat} {v : Value} {l : List By} (h : Stl w B v l) (hb : Below B w w') : Stl w' B v l := by
  obtain ⟨a, c, hv, hc, hl, hx⟩ := h
  refine ⟨a, c, hv, hc, hl, fun hne => ?_⟩
  obtain ⟨b, o, ha, hB, hcell⟩ := hx hne
  exact ⟨b, o, ha, hB, fun i x hi => (hb.cell (p := ⟨b, o + i, none⟩) hB).trans (hcell i x hi)⟩
theorem Stl.mono {w : World} {B B' : Nat} {v : Value} {l : List By} (h : Stl w B v l) (hB : B ≤ B') : Stl w B' v l := by
  obtain ⟨a, c, hv, hc, hl, hx⟩ := h
  refine ⟨a, c, hv, hc, hl, fun hne => ?_⟩
  obtain ⟨b, o, ha, hb, hcell⟩ := hx hne
  exact ⟨b, o, ha, by omega, hcell⟩
theorem Stl.slice {w : World} {B : Nat} {v : Value} {l : List By} (h : Stl w B v l) : ∃ a c, v = .slice a l.length c ∧ l.length ≤ c ∧ l.length ≤ 9223372036854775807 := by
  obtain ⟨a, c, hv, hc, hl, _⟩ := h
  exact ⟨a, c, hv, hc, hl⟩
theorem Stl.get {w : World} {B : Nat} {v : Value} {l : List By} (h : Stl w B v l) {i : Nat} (hi : i < l.length) : ∃ b o c x, v = .slice (some ⟨b, o, none⟩) l.length c ∧ l.length ≤ c ∧ b < B ∧ l[i]? = some x ∧ w.cell? ⟨b, o + i, none⟩ = some (.string (tx x)) := by
  obtain ⟨a, c, hv, hc, _, hx⟩ := h
  obtain ⟨b, o, rfl, hb, hcell⟩ := hx (ne_of_lt hi)
  obtain ⟨x, hx⟩ := get_lt hi
  exact ⟨b, o, c, x, hv, hc, hb, hx, hcell i x hx⟩
/-- what was told of a crumb, and where it lies -/
structure Fe where
  fa : Option Addr
  fc : Nat
  fs : List By
  er : Int
abbrev Fe.v (e : Fe) : Value := .slice e.fa e.fs.length e.fc
def Fe.p (e : Fe) : List By × Int := (e.fs, e.er)
def fl2 (es : List Fe) : List Value := es.flatMap fun e => [e.v, .int .i64 e.er]
theorem fl2_snoc (es : List Fe) (e : Fe) : fl2 (es ++ [e]) = fl2 es ++ [e.v, .int .i64 e.er] := by simp [fl2]
theorem fl2_at : ∀ (l : List Fe) (i : Nat) (p : Fe) (j : Nat) (u : Value), l[i]? = some p → ([p.v, .int .i64 p.er] : List Value)[j]? = some u → (fl2 l)[i * 2 + j]? = some u
  | [], i, t, j, u, h, _ => by simp at h
  | s :: l, 0, t, j, u, h, hj => by
    simp only [List.getElem?_cons_zero, Option.some.injEq] at h
    subst h
    have hlt := (List.getElem?_eq_some_iff.1 hj).1
    simp at hlt
    simp only [fl2, List.flatMap_cons, Nat.zero_mul, Nat.zero_add]
    rw [List.getElem?_append_left (by simp; omega)]
    exact hj
  | s :: l, i + 1, t, j, u, h, hj => by
    simp only [List.getElem?_cons_succ] at h
    have ih := fl2_at l i t j u h hj
    simp only [fl2, List.flatMap_cons] at ih ⊢
    rw [List.getElem?_append_right (by simp; omega)]
    simp only [List.length_cons, List.length_nil]
    rw [show (i + 1) * 2 + j - (0 + 1 + 1) = i * 2 + j by omega]
    exact ih
/-- what was told, in memory, apart from a stream -/
structure FeM (w : World) (N R : Nat) (ov : Value) (es : List Fe) : Prop where
  row : w.ownsRow N 39 2 ov es.length (fl2 es)
  ap : ∀ k, ov.ownBlock = some k → k ≠ R ∧ rowOf w R ≠ some k
  each : ∀ e ∈ es, FrM w N R e.v e.fs
  fr : ∀ e ∈ es, ∀ k, e.v.ownBlock = some k → ov.ownBlock ≠ some k
theorem FeM.fw {w w' : World} {N R : Nat} {ov : Value} {es : List Fe} (h : FeM w N R ov es) (k : Fw R w w') : FeM w' N R ov es := by
  refine ⟨row_same h.row fun g hg => k.block g (row_lt h.row hg).2 (h.ap g hg).1 (h.ap g hg).2, fun g hg => ⟨(h.ap g hg).1, k.rowne (row_lt h.row hg).2 (h.ap g hg).2⟩, fun e he => (h.each e he).fw k, h.fr⟩
theorem infoF : (Try.prog.info? 39).map (fun i => (i.zero, i.size, i.bytes)) = some (some (.agg #[.slice none 0 0, .int .i64 0]), 2, 32) := by kernel_rfl
theorem owns_mono {w : World} {N N' : Nat} {t : TypeId} {z : Nat} {v : Value} {n : Nat} {xs : List Value} (h : w.ownsRow N t z v n xs) (hN : N' ≤ N) : w.ownsRow N' t z v n xs := by
  refine ⟨h.1, ?_⟩
  rcases h.2 with h0 | ⟨g, cap, cur, hv, hb, hc⟩
  · exact .inl h0
  · exact .inr ⟨g, cap, cur, hv, by omega, hc⟩
theorem feed_st {w : World} {base R : Nat} {st : Option By} (s : StS w base R st) (b : By) (hb : b.length ≤ 549755813888) (hbs : base ≤ w.heap.size) :
    Calls Try.prog 32 #[ptR R, .string (tx b)] w (FdP w base R (stpT st b)) := by
  cases st with
  | none =>
    refine (feed_broken s b).mono ?_
    rintro e w' ⟨rfl, rfl⟩
    exact ⟨none, 0, rfl, ⟨⟨rfl, .inl ⟨rfl, rfl⟩⟩, by intro k hk; cases hk⟩, s, Fw.refl _ _⟩
  | some X =>
    have := feedT_small X (by obtain ⟨_, _, _, _, h⟩ := s; exact h)
    exact feed_any s b (by omega) hbs
theorem StS.lt {w : World} {base R : Nat} {st : Option By} (s : StS w base R st) : R < w.heap.size ∧ base ≤ R := by
  cases st with
  | none => exact ⟨StM.d s |>.lt, StM.b s⟩
  | some X => obtain ⟨_, _, h, _, _⟩ := s; exact ⟨h.d.lt, h.b⟩
theorem StS.below {w w' : World} {base R : Nat} {st : Option By} (s : StS w base R st) (k : Fw R w w') : Below base w w' := by
  cases st with
  | none => exact StM.below s k
  | some X => obtain ⟨_, _, h, _, _⟩ := s; exact h.below k
theorem StS.row {w : World} {base R : Nat} {st : Option By} (s : StS w base R st) : ∀ g, rowOf w R = some g → base ≤ g ∧ g ≠ R ∧ g < w.heap.size := by
  cases st with
  | none => exact StM.row s
  | some X => obtain ⟨_, _, h, _, _⟩ := s; exact h.row
theorem StS.at {w w' : World} {base R : Nat} {st : Option By} (s : StS w base R st) (hb : Below w.heap.size w w') : StS w' base R st := by
  cases st with
  | none => exact StM.at s hb
  | some X => obtain ⟨h, d, s1, q⟩ := s; exact ⟨h, d, s1.at hb, q⟩
theorem StS.gb {w w' : World} {base R : Nat} {st : Option By} {o : Option Nat} (s : StS w base R st) (hg : w.grownBy w' o) (ho : ∀ g, o = some g → g ≠ R ∧ rowOf w R ≠ some g) : StS w' base R st := by
  cases st with
  | none => exact StM.gb s hg ho
  | some X => obtain ⟨h, d, s1, q⟩ := s; exact ⟨h, d, s1.gb hg ho, q⟩
/-- what Crumbs answers -/
def CrP (w : World) (l : List By) (e : Ending) (w' : World) : Prop :=
  ∃ oa oc es, e = .returned (.slice oa l.length oc) ∧ es.map Fe.p = crmT (some []) l ∧ w'.ownsRow w.heap.size 39 2 (.slice oa l.length oc) l.length (fl2 es) ∧ (∀ e ∈ es, w'.ownsRow w.heap.size 9 1 e.v e.fs.length (strs e.fs)) ∧ (∀ e ∈ es, ∀ k, e.v.ownBlock = some k → (Value.slice oa l.length oc).ownBlock ≠ some k) ∧ Below w.heap.size w w'
set_option maxHeartbeats 2000000 in
set_option maxRecDepth 100000 in
theorem crumbs_any (lv : Value) (l : List By) (w : World) (hl : Stl w w.heap.size lv l) (hn : l.length ≤ 1099511627776) (hall : ∀ s ∈ l, s.length ≤ 549755813888) :
    Calls Try.prog 14 #[lv] w (CrP w l) := by
  obtain ⟨i9, hi9, hz90, hz91, hz92⟩ := info_parts infoF
  have HS : Hid (Stl w w.heap.size lv l) := hl
  have HA : Hid (∀ s ∈ l, s.length ≤ 549755813888) := hall
  obtain ⟨la, lc, rfl, hlc, -⟩ := hl.slice
  have kn := newst_any w
  clear hl hall
  go_enter Try.func14, Try.ntmps14
  go_wp2_with fail
  refine kn.mono ?_
  rintro e w1 ⟨rfl, s1, b1⟩
  clear kn
  obtain ⟨R, hR⟩ : ∃ R, w.heap.size = R := ⟨_, rfl⟩
  have HS0 : Hid (StS w1 w.heap.size R (some [])) := by rw [← hR]; exact ⟨[], 0, s1, .inl ⟨rfl, rfl⟩, feedT_few (by simp)⟩
  have HB0 : Hid (Below w.heap.size w w1) := b1
  have hRl : w.heap.size ≤ R := by omega
  rw [show (ptR w.heap.size) = ptR R by rw [hR]]
  clear s1 b1 hR
  go_wp2_with fail
  go_loopw [12, 4] (fun iv ov wr => ∃ (i : Nat) (es : List Fe) (oa : Option Addr) (oc : Nat), iv = .int .i64 (i : Int) ∧ ov = .slice oa i oc ∧ i ≤ l.length ∧ Hid (es.length = i ∧ es.map Fe.p = crmT (some []) (l.take i)) ∧ Hid (StS wr w.heap.size R (runT (some []) (l.take i))) ∧ Hid (FeM wr w.heap.size R (.slice oa i oc) es) ∧ Hid (Below w.heap.size w wr)) (fun iv _ _ => l.length - (intOf iv).toNat)
  case atStart => exact ⟨0, [], none, 0, rfl, rfl, Nat.zero_le _, ⟨rfl, rfl⟩, HS0, ⟨⟨rfl, .inl ⟨rfl, rfl⟩⟩, (by intro k hk; cases hk), (by intro e he; cases he), (by intro e he; cases he)⟩, HB0⟩
  case round =>
    obtain ⟨i, es, oa, oc, rfl, rfl, hi, HE, HT, HM, HB⟩ := hrel
    have hbz := HB.out.size
    by_cases c1 : i < l.length
    · have z1 : (i : Int) < (l.length : Int) := by omega
      obtain ⟨b', o, c', x, e1, _, _, hxx, hcx⟩ := (HS.out.keep HB.out).get (i := i) c1
      simp only [Value.slice.injEq] at e1
      obtain ⟨rfl, -, rfl⟩ := e1
      have k := feed_st HT.out x (HA.out x (List.mem_of_getElem? hxx)) hbz
      have HP : Hid (crmT (some []) (l.take (i + 1)) = crmT (some []) (l.take i) ++ [(stpT (runT (some []) (l.take i)) x).1] ∧ runT (some []) (l.take (i + 1)) = (stpT (runT (some []) (l.take i)) x).2) := by
        have e : l.take (i + 1) = l.take i ++ [x] := by rw [List.take_add_one, hxx]; rfl
        rw [Hid, e, crmT_snoc, runT_snoc]
        exact ⟨rfl, rfl⟩
      obtain ⟨⟨⟨fs, er⟩, st⟩, hst⟩ : ∃ p, stpT (runT (some []) (l.take i)) x = p := ⟨_, rfl⟩
      rw [hst] at k HP
      clear hst hxx
      go_wp2_with fail
      refine k.mono ?_
      rintro e w2 ⟨fa, fc, rfl, f2, s2, g2⟩
      clear k hcx
      have B2 : Below w.heap.size w w2 := HB.out.trans (HT.out.below g2)
      have M2 := HM.out.fw g2
      have bA : Below w2.heap.size w2 (w2.alloc (.cells #[.slice fa fs.length fc, .int .i64 er] 39)) := ba _ _
      have hR2 : R < w2.heap.size := s2.lt.1
      have FA := Fw.new hR2 bA
      have HM3 : Hid (FeM (w2.alloc (.cells #[.slice fa fs.length fc, .int .i64 er] 39)) w.heap.size R (.slice oa i oc) es) := M2.fw FA
      have HF3 : Hid (FrM (w2.alloc (.cells #[.slice fa fs.length fc, .int .i64 er] 39)) wr.heap.size R (.slice fa fs.length fc) fs) := f2.fw FA
      have HS3 : Hid (StS (w2.alloc (.cells #[.slice fa fs.length fc, .int .i64 er] 39)) w.heap.size R st) := s2.at bA
      have HB3 : Hid (Below w.heap.size w (w2.alloc (.cells #[.slice fa fs.length fc, .int .i64 er] 39))) := B2.trans (bA.mono B2.size)
      have hz2 := B2.size
      have hg2 := g2.size
      have hlen := HE.out.1
      have HrowI : Hid ((w2.alloc (.cells #[.slice fa fs.length fc, .int .i64 er] 39)).ownsRow w.heap.size 39 2 (.slice oa i oc) i (fl2 es)) := by
        have := HM3.out.row
        rw [hlen] at this
        exact this
      clear f2 s2 g2 B2 M2 bA FA hlen
      go_wp2_with (at_builtin; refine wpList_append_lies _ rfl _ _ 36 rfl w.heap.size 39 i9 (.agg #[.slice none 0 0, .int .i64 0]) 2 32 Try.underlying36 hi9 hz90 hz91 hz92 rfl (by decide) (.slice oa i oc) i (fl2 es) rfl HrowI.out ⟨w2.heap.size, 0, none⟩ 1 1 [.slice fa fs.length fc, .int .i64 er] rfl rfl (two_cells w2 _ _ _ _ rfl) (by intro z hz; simp at hz; rcases hz with rfl | rfl <;> rfl) (by decide) (by unfold maxLen; omega) (by omega) (by simp; omega) _ rfl ?_)
      intro g cap w5 hown hgrow hat hlt
      have hog : ∀ k, (Value.slice oa i oc).ownBlock = some k → k ≠ R ∧ rowOf (w2.alloc (.cells #[.slice fa fs.length fc, .int .i64 er] 39)) R ≠ some k := HM3.out.ap
      have hRW : R < (w2.alloc (.cells #[.slice fa fs.length fc, .int .i64 er] 39)).heap.size := by simp; omega
      have S5 : StS w5 w.heap.size R st := HS3.out.gb hgrow hog
      have hrow5 : rowOf w5 R = rowOf (w2.alloc (.cells #[.slice fa fs.length fc, .int .i64 er] 39)) R := by
        unfold rowOf
        rw [World.cell?_of_block (w := w2.alloc (.cells #[.slice fa fs.length fc, .int .i64 er] 39)) (a := ⟨R, 0, none⟩) (hgrow.block R hRW fun e => (hog R e.symm).1 rfl)]
      have hsz3 : (w2.alloc (.cells #[.slice fa fs.length fc, .int .i64 er] 39)).heap.size = w2.heap.size + 1 := by simp
      have hkeep : ∀ (N' : Nat) (v : Value) (q : List By), FrM (w2.alloc (.cells #[.slice fa fs.length fc, .int .i64 er] 39)) N' R v q → (∀ k, v.ownBlock = some k → (Value.slice oa i oc).ownBlock ≠ some k) → FrM w5 N' R v q := by
        intro N' v q hq hne
        refine ⟨row_same hq.1 fun k hk => hgrow.block k (row_lt hq.1 hk).2 (fun e => hne k hk e.symm), fun k hk => ?_⟩
        rw [hrow5]
        exact hq.2 k hk
      have hnew : ∀ k, (Value.slice fa fs.length fc).ownBlock = some k → (Value.slice oa i oc).ownBlock ≠ some k := by
        intro k hk e
        have h1 := (row_lt HF3.out.1 hk).1
        have h2 := (row_lt HM.out.row e).2
        omega
      have hgn : ∀ (N' : Nat) (v : Value) (q : List By), FrM (w2.alloc (.cells #[.slice fa fs.length fc, .int .i64 er] 39)) N' R v q → (∀ k, v.ownBlock = some k → (Value.slice oa i oc).ownBlock ≠ some k) → ∀ k, v.ownBlock = some k → (Value.slice (some ⟨g, 0, none⟩) (i + 1) cap).ownBlock ≠ some k := by
        intro N' v q hq hne k hk e
        simp only [Value.ownBlock, Option.some.injEq] at e
        rcases hat with hat | hat
        · exact hne k hk (by rw [hat, e])
        · have h1 := (row_lt hq.1 hk).2
          rw [hsz3] at h1
          omega
      have M5 : FeM w5 w.heap.size R (.slice (some ⟨g, 0, none⟩) (i + 1) cap) (es ++ [⟨fa, fc, fs, er⟩]) := by
        refine ⟨?_, fun k hk => ?_, fun e he => ?_, fun e he => ?_⟩
        · have hl : (es ++ [(⟨fa, fc, fs, er⟩ : Fe)]).length = i + 1 := by simp [HE.out.1]
          rw [hl, fl2_snoc]; exact hown
        · simp only [Value.ownBlock, Option.some.injEq] at hk
          subst hk
          rw [hrow5]
          rcases hat with hat | hat
          · exact hog _ hat
          · refine ⟨by omega, fun e => ?_⟩
            have := (HS3.out.row _ e).2.2
            rw [hsz3] at this
            omega
        · rcases List.mem_append.1 he with he | he
          · exact hkeep _ _ _ (HM3.out.each e he) (HM3.out.fr e he)
          · simp only [List.mem_singleton] at he
            subst he
            have := hkeep _ _ _ HF3.out hnew
            exact ⟨owns_mono this.1 hbz, this.2⟩
        · rcases List.mem_append.1 he with he | he
          · exact hgn _ _ _ (HM3.out.each e he) (HM3.out.fr e he)
          · simp only [List.mem_singleton] at he
            subst he
            exact hgn _ _ _ HF3.out hnew
      have HM5 : Hid (FeM w5 w.heap.size R (.slice (some ⟨g, 0, none⟩) (i + 1) cap) (es ++ [⟨fa, fc, fs, er⟩])) := M5
      have HS5 : Hid (StS w5 w.heap.size R st) := S5
      have HB5 : Hid (Below w.heap.size w w5) := HB3.out.grown hgrow (by rw [hsz3]; omega) (fun y e => (row_lt HM.out.row e).1)
      have HE5 : Hid ((es ++ [(⟨fa, fc, fs, er⟩ : Fe)]).length = i + 1 ∧ (es ++ [(⟨fa, fc, fs, er⟩ : Fe)]).map Fe.p = crmT (some []) (l.take (i + 1))) := by
        refine ⟨by simp [HE.out.1], ?_⟩
        rw [HP.out.1, List.map_append, HE.out.2]
        rfl
      clear hown hgrow hat hlt hog S5 hrow5 hsz3 hkeep hnew hgn M5 HM3 HF3 HS3 HB3 HrowI hRW
      go_wp2
      go_roundw
      case rel => exact ⟨i + 1, es ++ [⟨fa, fc, fs, er⟩], some ⟨g, 0, none⟩, cap, by go_num, rfl, c1, HE5, by rw [HP.out.2]; exact HS5, HM5, HB5⟩
      case measure => simp [intOf]; omega
    · obtain rfl : i = l.length := by omega
      have z1 : ¬ (l.length : Int) < (l.length : Int) := by omega
      go_wp2
      go_ret
      have he := HE.out
      rw [List.take_length] at he
      have hr := HM.out.row
      rw [he.1] at hr
      exact ⟨oa, oc, es, rfl, he.2, hr, fun e hm => (HM.out.each e hm).1, HM.out.fr, HB.out⟩
end Go.Proofs.Ytnoedkebmpfagaa
