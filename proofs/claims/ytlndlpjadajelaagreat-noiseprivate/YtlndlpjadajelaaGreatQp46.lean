import Derived.Test.YtlndlpjadajelaaGreatQp45
import Derived.Test.YtlndlpjadajelaaGreatQp37
import Derived.Test.YtlndlpjadajelaaGreatQp28
import Derived.Test.YtlndlpjadajelaaGreatQp43
import Derived.Test.YtlndlpjadajelaaGreatQp33
namespace Go.Proofs.YtlndlpjadajelaaGreat.K.Ds
end Go.Proofs.YtlndlpjadajelaaGreat.K.Ds
namespace Go.Proofs.YtlndlpjadajelaaGreat.K
open Go.RowKit Go.Proofs.YtlndlpjadajelaaGreat.K.Ds

set_option maxHeartbeats 1000000 in
set_option maxRecDepth 100000 in
theorem rtype_any (l : List Col) (q : Qu) (w : World) (B : Nat) (lv v0 v1 v2 v3 v4 v5 : Value) (b1 b2 b3 er : Int) (hB : B ≤ w.heap.size) (hp : Cols w B lv l) (hq : Qm w B q v0 v1 v2 v3 v4 v5) (hr : typV (typ l q) = ((b1, b2, b3), er)) :
    Calls Tryz.prog 32 #[lv, .agg #[v0, v1, v2, v3, v4, v5]] w fun e w' => e = .returned (.tuple #[.agg #[.int .i64 b1, .int .i64 b2, .int .i64 b3], .int .i64 er]) ∧ Below w.heap.size w w' := by
  have HP : Hid (Cols w B lv l) := hp
  have HQ : Hid (Qm w B q v0 v1 v2 v3 v4 v5) := hq
  have HR : Hid (typV (typ l q) = ((b1, b2, b3), er)) := hr
  obtain ⟨la, lc, rfl, _⟩ := hp.slice
  obtain ⟨kk, kc, kl, kh, ka, kn', kd, kb, km, kp, rfl, rfl, rfl, rfl, rfl, rfl⟩ := hq.shape
  obtain ⟨ec, hec⟩ : ∃ ec, colE l = ec := ⟨_, rfl⟩
  have bq := Bq.new w (.int .i64 kk) (.string kc) (.int .i64 kl) (.int .i64 kh) (.slice ka kn' kd) (.slice kb km kp)
  have hb0 : Below w.heap.size w ((w.alloc (.cells #[.int .i64 kk, .string kc, .int .i64 kl, .int .i64 kh, .slice ka kn' kd, .slice kb km kp] 31)).alloc (.cells #[.int .i64 0, .int .i64 0, .int .i64 0] 61)) := bal (ba _ _) _
  have k1 := rcolumns_any B _ l _ (Nat.le_trans hB hb0.size) (hp.at hB hb0) ec hec
  have HEC : Hid (colE l = ec) := hec
  clear hp hq hr hec
  go_enter Tryz.func32, Tryz.ntmps32
  go_wp2_with fail
  refine k1.mono ?_
  rintro e w1 ⟨rfl, hb1⟩
  clear k1
  have hbw : Below w.heap.size w w1 := bt hb0 hb1
  have HB1 : Hid (Bq w1 w.heap.size (.int .i64 kk) (.string kc) (.int .i64 kl) (.int .i64 kh) (.slice ka kn' kd) (.slice kb km kp)) := bq.at hb1
  clear bq hb0 hb1
  by_cases he : ec = 0
  · subst he
    have HT : Hid (typV (bnd l 1 q) = ((b1, b2, b3), er)) := by have := HR.out; rwa [typ, if_pos HEC.out] at this
    have hsz := hbw.size
    have k2 := rbound_any l (colE_ok HEC.out).2.2.1 q 1 w1 B (.slice la l.length lc) _ _ _ _ _ _ b1 b2 b3 er (by decide) (by omega) (HP.out.at hB hbw) (HQ.out.at hB hbw) HT.out
    have m0 := HB1.out.a0.c
    have m1 := HB1.out.a1.c
    have m2 := HB1.out.a2.c
    have m3 := HB1.out.a3.c
    have m4 := HB1.out.a4.c
    have m5 := HB1.out.a5.c
    go_wp2_with fail
    refine k2.mono ?_
    rintro e w3 ⟨rfl, hb3⟩
    clear k2 m0 m1 m2 m3 m4 m5
    have HB3 : Hid (Bq w3 w.heap.size (.int .i64 kk) (.string kc) (.int .i64 kl) (.int .i64 kh) (.slice ka kn' kd) (.slice kb km kp)) := HB1.out.at hb3
    have hbw3 : Below w.heap.size w w3 := bt hbw hb3
    clear HB1 hb3
    have s0 := HB3.out.e0.c
    have s1 := HB3.out.e1.c
    have s2 := HB3.out.e2.c
    have f0 := HB3.out.e0.f
    have f1 := HB3.out.e1.f
    have f2 := HB3.out.e2.f
    go_wp2
    exact bodyPost_ret (v := .tuple #[.agg #[.int .i64 b1, .int .i64 b2, .int .i64 b3], .int .i64 er]) (by simp [results, Tryz.results32, go_sem, s0, s1, s2]) rfl ⟨rfl, bs3 hbw3 (Nat.le_succ _) _ _ _⟩
  · have hv := HR.out
    rw [typ, HEC.out, if_neg he] at hv
    obtain ⟨rfl, rfl, rfl, rfl⟩ := typV_err hv
    clear hv
    have hne : (ec != 0) = true := by simpa using he
    have s0 := HB1.out.e0.c
    have s1 := HB1.out.e1.c
    have s2 := HB1.out.e2.c
    have f0 := HB1.out.e0.f
    have f1 := HB1.out.e1.f
    have f2 := HB1.out.e2.f
    go_wp2
    exact bodyPost_ret (v := .tuple #[.agg #[.int .i64 0, .int .i64 0, .int .i64 0], .int .i64 ec]) (by simp [results, Tryz.results32, go_sem, s0, s1, s2]) rfl ⟨rfl, bs3 hbw (Nat.le_succ _) _ _ _⟩

theorem typV_split {r : Except Int Bnd} {b1 b2 b3 er : Int} (h : typV r = ((b1, b2, b3), er)) (hne : ∀ e, r = .error e → e ≠ 0) : (er = 0 ∧ r = .ok (b1, b2, b3)) ∨ (er ≠ 0 ∧ r = .error er) := by
  cases r with
  | error e =>
    obtain ⟨_, _, _, rfl⟩ := typV_err h
    exact .inr ⟨hne _ rfl, rfl⟩
  | ok b =>
    obtain ⟨c1, c2, c3⟩ := b
    obtain ⟨rfl, rfl, rfl, rfl⟩ := typV_ok h
    exact .inl ⟨rfl, rfl⟩
theorem typ_ne {l : List Col} {q : Qu} {e : Int} (h : typ l q = .error e) : e ≠ 0 := by
  unfold typ at h
  split at h
  · exact bnd_ne q _ _ h
  · cases h; assumption

end Go.Proofs.YtlndlpjadajelaaGreat.K

namespace Go.Proofs.YtlndlpjadajelaaGreat.K
open Go.RowKit Go.Proofs.YtlndlpjadajelaaGreat.K.Ds

def liveL : List Col := [(⟨#[97]⟩, 2)]
def liveQ : Qu := .node 1 ⟨#[]⟩ 0 0 [] 0 .none .none
theorem live_typ : typV (typ liveL liveQ) = ((1, 1, 4096), 0) := by
  have h1 : colE liveL = 0 := by decide
  have h2 : bnd liveL 1 liveQ = .ok (1, 1, 4096) := by simp [bnd, liveQ, kidN, ifK, rec, ifW, whE, tsE, lim, limB]
  rw [typ, if_pos h1, h2]
  rfl
theorem runT_typ {l : List Col} {rs : List (List Int)} {q : Qu} (h : wroE l rs = 0) : runT l rs q = match typ l q with | .ok _ => .ok (ans l rs q) | .error e => .error e := by
  rw [runT, if_pos h, typ, if_pos (wroE_ok h).1]
  all_goals (cases bnd l 1 q <;> rfl)

end Go.Proofs.YtlndlpjadajelaaGreat.K

namespace Go.Proofs.YtlndlpjadajelaaGreat.K
open Go.RowKit Go.Proofs.YtlndlpjadajelaaGreat.K.Ds

theorem typ_ok {l : List Col} {q : Qu} {b : Bnd} (h : typ l q = .ok b) : colE l = 0 ∧ bnd l 1 q = .ok b := by
  unfold typ at h
  split at h
  · exact ⟨by assumption, h⟩
  · cases h

set_option maxHeartbeats 2000000 in
set_option maxRecDepth 100000 in
theorem rrun_any (l : List Col) (ts : List Rw) (q : Qu) (w : World) (B : Nat) (cv rv v0 v1 v2 v3 v4 v5 : Value) (xs : List Int) (er : Int) (hB : B ≤ w.heap.size) (hp : Cols w B cv l) (hrw : Rws w B rv ts) (hq : Qm w B q v0 v1 v2 v3 v4 v5) (hr : runV (runT l (rr ts) q) = (xs, er)) :
    Calls Tryz.prog 30 #[.agg #[cv, rv], .agg #[v0, v1, v2, v3, v4, v5]] w (RunP w xs er) := by
  have HP : Hid (Cols w B cv l) := hp
  have HRW : Hid (Rws w B rv ts) := hrw
  have HQ : Hid (Qm w B q v0 v1 v2 v3 v4 v5) := hq
  have HR : Hid (runV (runT l (rr ts) q) = (xs, er)) := hr
  obtain ⟨la, lc, rfl, _⟩ := hp.slice
  obtain ⟨ra, rc, rfl, _⟩ := hrw.slice
  obtain ⟨kk, kc, kl, kh, ka, kn', kd, kb, km, kp, rfl, rfl, rfl, rfl, rfl, rfl⟩ := hq.shape
  have hb0 : Below w.heap.size w ((w.alloc (.cells #[.slice la l.length lc, .slice ra ts.length rc] 27)).alloc (.cells #[.int .i64 kk, .string kc, .int .i64 kl, .int .i64 kh, .slice ka kn' kd, .slice kb km kp] 31)) := bal (ba _ _) _
  have HT : Hid (Cl ((w.alloc (.cells #[.slice la l.length lc, .slice ra ts.length rc] 27)).alloc (.cells #[.int .i64 kk, .string kc, .int .i64 kl, .int .i64 kh, .slice ka kn' kd, .slice kb km kp] 31)) w.heap.size 0 (.slice la l.length lc) ∧ Cl ((w.alloc (.cells #[.slice la l.length lc, .slice ra ts.length rc] 27)).alloc (.cells #[.int .i64 kk, .string kc, .int .i64 kl, .int .i64 kh, .slice ka kn' kd, .slice kb km kp] 31)) w.heap.size 1 (.slice ra ts.length rc)) := ⟨(Cl.new _ 27 _ _ rfl rfl).at (ba _ _), (Cl.new _ 27 _ _ rfl rfl).at (ba _ _)⟩
  have HN : Hid (Bx ((w.alloc (.cells #[.slice la l.length lc, .slice ra ts.length rc] 27)).alloc (.cells #[.int .i64 kk, .string kc, .int .i64 kl, .int .i64 kh, .slice ka kn' kd, .slice kb km kp] 31)) (w.heap.size + 1) (.int .i64 kk) (.string kc) (.int .i64 kl) (.int .i64 kh) (.slice ka kn' kd) (.slice kb km kp)) := Bx.new _ _ (by simp) _ _ _ _ _ _
  obtain ⟨W0, hW0⟩ : ∃ W0, ((w.alloc (.cells #[.slice la l.length lc, .slice ra ts.length rc] 27)).alloc (.cells #[.int .i64 kk, .string kc, .int .i64 kl, .int .i64 kh, .slice ka kn' kd, .slice kb km kp] 31)) = W0 := ⟨_, rfl⟩
  rw [hW0] at hb0 HT HN
  obtain ⟨ew, hew⟩ : ∃ ew, wroE l (rr ts) = ew := ⟨_, rfl⟩
  have k1 := rwrong_any B _ _ l ts W0 (Nat.le_trans hB hb0.size) (HP.out.at hB hb0) (HRW.out.at hB hb0) ew hew
  have HEW : Hid (wroE l (rr ts) = ew) := hew
  have m0 := HT.out.1.c
  have m1 := HT.out.2.c
  clear hp hrw hq hr hew
  go_enter Tryz.func30, Tryz.ntmps30
  go_wp2_with fail
  refine k1.mono ?_
  rintro e w1 ⟨rfl, hb1⟩
  clear k1 m0 m1 hW0
  have hbw1 := bt hb0 hb1
  by_cases he : ew = 0
  · subst he
    have HT1 : Hid (Cl w1 w.heap.size 0 (.slice la l.length lc) ∧ Cl w1 w.heap.size 1 (.slice ra ts.length rc)) := ⟨HT.out.1.at hb1, HT.out.2.at hb1⟩
    have HN1 : Hid (Bx w1 (w.heap.size + 1) (.int .i64 kk) (.string kc) (.int .i64 kl) (.int .i64 kh) (.slice ka kn' kd) (.slice kb km kp)) := HN.out.at hb1
    obtain ⟨b1, b2, b3, te, hty⟩ : ∃ b1 b2 b3 te, typV (typ l q) = ((b1, b2, b3), te) := ⟨_, _, _, _, rfl⟩
    have k2 := rtype_any l q w1 B _ _ _ _ _ _ _ b1 b2 b3 te (Nat.le_trans hB hbw1.size) (HP.out.at hB hbw1) (HQ.out.at hB hbw1) hty
    have HTY : Hid (typV (typ l q) = ((b1, b2, b3), te)) := hty
    have m0 := HT1.out.1.c
    have m1 := HN1.out.a0.c
    have m2 := HN1.out.a1.c
    have m3 := HN1.out.a2.c
    have m4 := HN1.out.a3.c
    have m5 := HN1.out.a4.c
    have m6 := HN1.out.a5.c
    clear hty HT HN hb1
    go_wp2_with fail
    refine k2.mono ?_
    rintro e w2 ⟨rfl, hb2⟩
    clear k2 m0 m1 m2 m3 m4 m5 m6
    rcases typV_split HTY.out (fun e he => typ_ne he) with ⟨rfl, ht⟩ | ⟨hte, ht⟩
    · obtain ⟨hxs, rfl⟩ : ans l (rr ts) q = xs ∧ 0 = er := by
        have := HR.out
        rw [runT_typ HEW.out, ht] at this
        simp only [runV, Prod.mk.injEq] at this
        exact this
      obtain ⟨hce, hle, hok⟩ := wroE_ok HEW.out
      have HK : ∀ W, Below w1.heap.size w1 W → Calls Tryz.prog 77 #[.agg #[.slice la l.length lc, .slice ra ts.length rc], .agg #[.int .i64 kk, .string kc, .int .i64 kl, .int .i64 kh, .slice ka kn' kd, .slice kb km kp]] W (AnsR W xs) := fun W hW => by
        rw [← hxs]
        exact ranswer_any (colE_ok hce).2.2.1 (by rw [← rr_len]; exact hle) hok q 1 W B _ _ _ _ _ _ _ _ _ (Nat.le_trans hB (bt hbw1 hW).size) (HP.out.at hB (bt hbw1 hW)) (HRW.out.at hB (bt hbw1 hW)) (HQ.out.at hB (bt hbw1 hW)) (typ_ok ht).2
      have hb2' := bal hb2 (.cells #[.int .i64 b1, .int .i64 b2, .int .i64 b3] 61)
      obtain ⟨W2, hW2⟩ : ∃ W2, w2.alloc (.cells #[.int .i64 b1, .int .i64 b2, .int .i64 b3] 61) = W2 := ⟨_, rfl⟩
      rw [hW2] at hb2'
      have k3 := HK W2 hb2'
      have hT2 := HT1.out.1.at hb2'
      have hT3 := HT1.out.2.at hb2'
      have hN2 := HN1.out.at hb2'
      have m0 := hT2.c
      have m7 := hT3.c
      have m1 := hN2.a0.c
      have m2 := hN2.a1.c
      have m3 := hN2.a2.c
      have m4 := hN2.a3.c
      have m5 := hN2.a4.c
      have m6 := hN2.a5.c
      clear hT2 hT3 hN2 HK hxs hce hle hok ht
      go_wp2_with fail
      refine k3.mono ?_
      rintro e w3 ⟨a, c, rfl, hI, hb3⟩
      clear k3 hW2
      have hbw3 : Below w.heap.size w w3 := bt (bt hbw1 hb2') hb3
      go_wp2
      exact bodyPost_ret (v := .tuple #[.slice a xs.length c, .int .i64 0]) (by simp [results, Tryz.results30, go_sem]) rfl ⟨a, c, rfl, hI, hbw3⟩
    · obtain ⟨rfl, rfl⟩ : [] = xs ∧ te = er := by
        have := HR.out
        rw [runT_typ HEW.out, ht] at this
        simp only [runV, Prod.mk.injEq] at this
        exact this
      have hne : (te != 0) = true := by simpa using hte
      have hbw3 : Below w.heap.size w (w2.alloc (.cells #[.int .i64 b1, .int .i64 b2, .int .i64 b3] 61)) := bt hbw1 (bal hb2 _)
      clear ht
      go_wp2
      exact bodyPost_ret (v := .tuple #[.slice none 0 0, .int .i64 te]) (by simp [results, Tryz.results30, go_sem]) rfl ⟨none, 0, rfl, ⟨none, 0, rfl, Nat.le_refl _, by simp, fun h => absurd rfl h⟩, hbw3⟩
  · obtain ⟨rfl, rfl⟩ : [] = xs ∧ ew = er := by
      have := HR.out
      rw [runT, if_neg (by rw [HEW.out]; exact he), HEW.out] at this
      simp only [runV, Prod.mk.injEq] at this
      exact this
    have hne : (ew != 0) = true := by simpa using he
    go_wp2
    exact bodyPost_ret (v := .tuple #[.slice none 0 0, .int .i64 ew]) (by simp [results, Tryz.results30, go_sem]) rfl ⟨none, 0, rfl, ⟨none, 0, rfl, Nat.le_refl _, by simp, fun h => absurd rfl h⟩, hbw1⟩

end Go.Proofs.YtlndlpjadajelaaGreat.K

namespace Go.Proofs.YtlndlpjadajelaaGreat.K
open Go.RowKit Go.Proofs.YtlndlpjadajelaaGreat.K.Ds

theorem togS_nn {xs : List Int} (h : ∀ x ∈ xs, 0 ≤ x) : 0 ≤ togS xs := by
  induction xs with
  | nil => simp [togS]
  | cons a r ih => simp only [togS]; have := h a (by simp); have := ih fun x hx => h x (by simp [hx]); omega
theorem togS_set {xs : List Int} {i : Nat} {x : Int} (h : xs[i]? = some x) (y : Int) : togS (xs.set i y) = togS xs - x + y := by
  induction xs generalizing i with
  | nil => simp at h
  | cons n r ih =>
    cases i with
    | zero => simp at h; subst h; simp only [List.set_cons_zero, togS]; omega
    | succ i => simp at h; simp only [List.set_cons_succ, togS, ih h]; omega
theorem togS_rep (n : Nat) : togS (List.replicate n 0) = 0 := by
  induction n with
  | zero => rfl
  | succ n ih => simp [List.replicate_succ, togS, ih]
theorem celT_sum {l : List Col} (hs : Szs l) : ∀ (n : Nat) (rs : List (List Int)), rs.length = n → (∀ r ∈ rs, RowOk l r) → togS (celT l rs) = rs.length := by
  intro n
  induction n with
  | zero =>
    intro rs h _
    obtain rfl : rs = [] := List.length_eq_zero_iff.1 h
    rw [celT_nil, togS_rep]; rfl
  | succ n ih =>
    intro rs h hr
    obtain ⟨pre, x, rfl⟩ : ∃ pre x, rs = pre ++ [x] := ⟨rs.dropLast, rs.getLast (by rintro rfl; simp at h), (List.dropLast_concat_getLast _).symm⟩
    have hx := hr x (by simp)
    have hp := ih pre (by simp at h; exact h) (fun r hr' => hr r (by simp [hr']))
    rw [celT_snoc hs hx]
    obtain ⟨y, hy⟩ := get_lt (l := celT l pre) (i := plc l x) (by rw [celT_len]; exact plc_lt hx)
    rw [cadd_get hy, togS_set hy, hp]
    simp
    omega

theorem apaS_nn (x y : List Int) : 0 ≤ apaS x y := by
  induction x generalizing y with
  | nil => cases y <;> simp [apaS]
  | cons a x ih => cases y with
    | nil => simp [apaS]
    | cons b y => simp only [apaS]; have := ih y; omega
theorem apaS_zero {x y : List Int} (h : x.length = y.length) : apaS x y = 0 ↔ x = y := by
  induction x generalizing y with
  | nil => cases y with
    | nil => simp [apaS]
    | cons b y => simp at h
  | cons a x ih => cases y with
    | nil => simp at h
    | cons b y =>
      simp only [apaS]
      have h1 := apaS_nn x y
      simp at h
      constructor
      · intro h2
        have h3 : apaS x y = 0 := by omega
        rw [(ih h).1 h3, show a = b by omega]
      · intro h2
        injection h2 with h3 h4
        rw [(ih h).2 h4, h3]; omega
/-- what is made of numbers has these numbers -/
theorem froR_mem {rows : List (List Int)} {cells r : List Int} (h : r ∈ froR rows cells) : r ∈ rows := by
  obtain ⟨p, hp, h2⟩ := List.mem_flatMap.1 h
  rw [(List.mem_replicate.1 h2).2]
  exact (List.of_mem_zip hp).1
theorem froR_count {rows : List (List Int)} {cells : List Int} (hinj : ∀ (i j : Nat) (x : List Int), rows[i]? = some x → rows[j]? = some x → i = j) (hl : rows.length = cells.length) {i : Nat} {r : List Int} {n : Int} (hr : rows[i]? = some r) (hn : cells[i]? = some n) : (froR rows cells).count r = n.toNat := by
  induction rows generalizing cells i with
  | nil => simp at hr
  | cons p rows ih =>
    cases cells with
    | nil => simp at hn
    | cons c cells =>
      have e : froR (p :: rows) (c :: cells) = List.replicate c.toNat p ++ froR rows cells := rfl
      have hinj2 : ∀ (i j : Nat) (x : List Int), rows[i]? = some x → rows[j]? = some x → i = j := fun i j x h1 h2 => by
        have := hinj (i + 1) (j + 1) x (by simpa using h1) (by simpa using h2); omega
      have hp : p ∉ rows := fun hm => by
        obtain ⟨j, hj⟩ := List.mem_iff_getElem?.1 hm
        have := hinj 0 (j + 1) p rfl (by simpa using hj)
        omega
      rw [e, List.count_append]
      cases i with
      | zero =>
        simp at hr hn; subst hr; subst hn
        rw [List.count_replicate_self, List.count_eq_zero.2 (fun h => hp (froR_mem h))]; omega
      | succ i =>
        simp at hr hn
        have hne : p ≠ r := by rintro rfl; exact hp (List.mem_of_getElem? hr)
        rw [ih hinj2 (by simpa using hl) hr hn, List.count_eq_zero.2 (fun h => hne (List.mem_replicate.1 h).2.symm)]; omega
theorem allT_inj {l : List Col} (hs : Szs l) (i j : Nat) (x : List Int) (h1 : (allT l)[i]? = some x) (h2 : (allT l)[j]? = some x) : i = j := by
  have hi : i < prd l := by have := (List.getElem?_eq_some_iff.1 h1).1; rwa [allT_len] at this
  have hj : j < prd l := by have := (List.getElem?_eq_some_iff.1 h2).1; rwa [allT_len] at this
  rw [allT_get hi] at h1
  rw [allT_get hj] at h2
  have e := congrArg (plc l) ((Option.some.inj h1).trans (Option.some.inj h2).symm)
  rw [plc_cel hs, plc_cel hs, Nat.mod_eq_of_lt hi, Nat.mod_eq_of_lt hj] at e
  exact e
theorem celT_fro {l : List Col} (hs : Szs l) {xs : List Int} (hl : xs.length = prd l) (hnn : ∀ x ∈ xs, 0 ≤ x) : celT l (froR (allT l) xs) = xs := by
  refine List.ext_getElem? fun i => ?_
  by_cases hi : i < prd l
  · obtain ⟨n, hn⟩ := get_lt (l := xs) (i := i) (by omega)
    rw [celT_get hi, hn, cntT, froR_count (allT_inj hs) (by rw [allT_len, hl]) (allT_get hi) hn]
    have := hnn n (List.mem_of_getElem? hn)
    congr 1; omega
  · rw [List.getElem?_eq_none (by rw [celT_len]; omega), List.getElem?_eq_none (by omega)]
theorem froR_len {rows : List (List Int)} {cells : List Int} (hl : rows.length = cells.length) (hnn : ∀ x ∈ cells, 0 ≤ x) : ((froR rows cells).length : Int) = togS cells := by
  induction rows generalizing cells with
  | nil => cases cells with
    | nil => rfl
    | cons c cells => simp at hl
  | cons p rows ih =>
    cases cells with
    | nil => simp at hl
    | cons c cells =>
      have e : froR (p :: rows) (c :: cells) = List.replicate c.toNat p ++ froR rows cells := rfl
      rw [e, List.length_append, List.length_replicate, togS]
      have := ih (by simpa using hl) (fun x h => hnn x (by simp [h]))
      have := hnn c (by simp)
      omega

theorem apaE_of {a : List Col} {ra rb : List (List Int)} (h1 : wroE a ra = 0) (h2 : wroE a rb = 0) : apaE a a ra rb = 0 := by
  rw [apaE, if_pos h1, if_pos h2, if_pos rfl]
end Go.Proofs.YtlndlpjadajelaaGreat.K
