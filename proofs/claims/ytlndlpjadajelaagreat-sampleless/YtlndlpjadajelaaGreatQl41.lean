import Derived.Test.YtlndlpjadajelaaGreatQl40
import Derived.Test.YtlndlpjadajelaaGreatQl36
import Derived.Test.YtlndlpjadajelaaGreatQl27
import Derived.Test.YtlndlpjadajelaaGreatQl32
namespace Go.Proofs.YtlndlpjadajelaaGreat.K.Ds
end Go.Proofs.YtlndlpjadajelaaGreat.K.Ds
namespace Go.Proofs.YtlndlpjadajelaaGreat.K
open Go.RowKit Go.Proofs.YtlndlpjadajelaaGreat.K.Ds

set_option maxHeartbeats 1000000 in
set_option maxRecDepth 100000 in
theorem rtype_any (l : List Col) (q : Qu) (w : World) (B : Nat) (lv v0 v1 v2 v3 v4 v5 : Value) (b1 b2 b3 er : Int) (hB : B ≤ w.heap.size) (hp : Cols w B lv l) (hq : Qm w B q v0 v1 v2 v3 v4 v5) (hr : typV (typ l q) = ((b1, b2, b3), er)) :
    Calls Tryz.prog 32 #[lv, .agg #[v0, v1, v2, v3, v4, v5]] w fun e w' => e = .returned (.tuple #[.agg #[.int .i64 b1, .int .i64 b2, .int .i64 b3], .int .i64 er]) ∧ Below w.heap.size w w' := by
  have HP : Hid (Cols w B lv l) := hp
  have HQ : Hid (Qm w B q v0 v1 v2 v3 v4 v5) := hq
  have HR : Hid (typV (typ l q) = ((b1, b2, b3), er)) := hr
  obtain ⟨la, lc, rfl, _⟩ := hp.slice
  obtain ⟨kk, kc, kl, kh, ka, kn', kd, kb, km, kp, rfl, rfl, rfl, rfl, rfl, rfl⟩ := hq.shape
  obtain ⟨ec, hec⟩ : ∃ ec, colE l = ec := ⟨_, rfl⟩
  have bq := Bq.new w (.int .i64 kk) (.string kc) (.int .i64 kl) (.int .i64 kh) (.slice ka kn' kd) (.slice kb km kp)
  have hb0 : Below w.heap.size w ((w.alloc (.cells #[.int .i64 kk, .string kc, .int .i64 kl, .int .i64 kh, .slice ka kn' kd, .slice kb km kp] 31)).alloc (.cells #[.int .i64 0, .int .i64 0, .int .i64 0] 61)) := bal (ba _ _) _
  have k1 := rcolumns_any B _ l _ (Nat.le_trans hB hb0.size) (hp.at hB hb0) ec hec
  have HEC : Hid (colE l = ec) := hec
  clear hp hq hr hec
  go_enter Tryz.func32, Tryz.ntmps32
  go_wp2_with fail
  refine k1.mono ?_
  rintro e w1 ⟨rfl, hb1⟩
  clear k1
  have hbw : Below w.heap.size w w1 := bt hb0 hb1
  have HB1 : Hid (Bq w1 w.heap.size (.int .i64 kk) (.string kc) (.int .i64 kl) (.int .i64 kh) (.slice ka kn' kd) (.slice kb km kp)) := bq.at hb1
  clear bq hb0 hb1
  by_cases he : ec = 0
  · subst he
    have HT : Hid (typV (bnd l 1 q) = ((b1, b2, b3), er)) := by have := HR.out; rwa [typ, if_pos HEC.out] at this
    have hsz := hbw.size
    have k2 := rbound_any l (colE_ok HEC.out).2.2.1 q 1 w1 B (.slice la l.length lc) _ _ _ _ _ _ b1 b2 b3 er (by decide) (by omega) (HP.out.at hB hbw) (HQ.out.at hB hbw) HT.out
    have m0 := HB1.out.a0.c
    have m1 := HB1.out.a1.c
    have m2 := HB1.out.a2.c
    have m3 := HB1.out.a3.c
    have m4 := HB1.out.a4.c
    have m5 := HB1.out.a5.c
    go_wp2_with fail
    refine k2.mono ?_
    rintro e w3 ⟨rfl, hb3⟩
    clear k2 m0 m1 m2 m3 m4 m5
    have HB3 : Hid (Bq w3 w.heap.size (.int .i64 kk) (.string kc) (.int .i64 kl) (.int .i64 kh) (.slice ka kn' kd) (.slice kb km kp)) := HB1.out.at hb3
    have hbw3 : Below w.heap.size w w3 := bt hbw hb3
    clear HB1 hb3
    have s0 := HB3.out.e0.c
    have s1 := HB3.out.e1.c
    have s2 := HB3.out.e2.c
    have f0 := HB3.out.e0.f
    have f1 := HB3.out.e1.f
    have f2 := HB3.out.e2.f
    go_wp2
    exact bodyPost_ret (v := .tuple #[.agg #[.int .i64 b1, .int .i64 b2, .int .i64 b3], .int .i64 er]) (by simp [results, Tryz.results32, go_sem, s0, s1, s2]) rfl ⟨rfl, bs3 hbw3 (Nat.le_succ _) _ _ _⟩
  · have hv := HR.out
    rw [typ, HEC.out, if_neg he] at hv
    obtain ⟨rfl, rfl, rfl, rfl⟩ := typV_err hv
    clear hv
    have hne : (ec != 0) = true := by simpa using he
    have s0 := HB1.out.e0.c
    have s1 := HB1.out.e1.c
    have s2 := HB1.out.e2.c
    have f0 := HB1.out.e0.f
    have f1 := HB1.out.e1.f
    have f2 := HB1.out.e2.f
    go_wp2
    exact bodyPost_ret (v := .tuple #[.agg #[.int .i64 0, .int .i64 0, .int .i64 0], .int .i64 ec]) (by simp [results, Tryz.results32, go_sem, s0, s1, s2]) rfl ⟨rfl, bs3 hbw (Nat.le_succ _) _ _ _⟩

theorem typV_split {r : Except Int Bnd} {b1 b2 b3 er : Int} (h : typV r = ((b1, b2, b3), er)) (hne : ∀ e, r = .error e → e ≠ 0) : (er = 0 ∧ r = .ok (b1, b2, b3)) ∨ (er ≠ 0 ∧ r = .error er) := by
  cases r with
  | error e =>
    obtain ⟨_, _, _, rfl⟩ := typV_err h
    exact .inr ⟨hne _ rfl, rfl⟩
  | ok b =>
    obtain ⟨c1, c2, c3⟩ := b
    obtain ⟨rfl, rfl, rfl, rfl⟩ := typV_ok h
    exact .inl ⟨rfl, rfl⟩
theorem typ_ne {l : List Col} {q : Qu} {e : Int} (h : typ l q = .error e) : e ≠ 0 := by
  unfold typ at h
  split at h
  · exact bnd_ne q _ _ h
  · cases h; assumption

end Go.Proofs.YtlndlpjadajelaaGreat.K

namespace Go.Proofs.YtlndlpjadajelaaGreat.K
open Go.RowKit Go.Proofs.YtlndlpjadajelaaGreat.K.Ds

def liveL : List Col := [(⟨#[97]⟩, 2)]
def liveQ : Qu := .node 1 ⟨#[]⟩ 0 0 [] 0 .none .none
theorem live_typ : typV (typ liveL liveQ) = ((1, 1, 4096), 0) := by
  have h1 : colE liveL = 0 := by decide
  have h2 : bnd liveL 1 liveQ = .ok (1, 1, 4096) := by simp [bnd, liveQ, kidN, ifK, rec, ifW, whE, tsE, lim, limB]
  rw [typ, if_pos h1, h2]
  rfl
theorem runT_typ {l : List Col} {rs : List (List Int)} {q : Qu} (h : wroE l rs = 0) : runT l rs q = match typ l q with | .ok _ => .ok (ans l rs q) | .error e => .error e := by
  rw [runT, if_pos h, typ, if_pos (wroE_ok h).1]
  all_goals (cases bnd l 1 q <;> rfl)

end Go.Proofs.YtlndlpjadajelaaGreat.K

namespace Go.Proofs.YtlndlpjadajelaaGreat.K
open Go.RowKit Go.Proofs.YtlndlpjadajelaaGreat.K.Ds

theorem togS_nn {xs : List Int} (h : ∀ x ∈ xs, 0 ≤ x) : 0 ≤ togS xs := by
  induction xs with
  | nil => simp [togS]
  | cons a r ih => simp only [togS]; have := h a (by simp); have := ih fun x hx => h x (by simp [hx]); omega
theorem togS_set {xs : List Int} {i : Nat} {x : Int} (h : xs[i]? = some x) (y : Int) : togS (xs.set i y) = togS xs - x + y := by
  induction xs generalizing i with
  | nil => simp at h
  | cons n r ih =>
    cases i with
    | zero => simp at h; subst h; simp only [List.set_cons_zero, togS]; omega
    | succ i => simp at h; simp only [List.set_cons_succ, togS, ih h]; omega
theorem togS_rep (n : Nat) : togS (List.replicate n 0) = 0 := by
  induction n with
  | zero => rfl
  | succ n ih => simp [List.replicate_succ, togS, ih]
theorem celT_sum {l : List Col} (hs : Szs l) : ∀ (n : Nat) (rs : List (List Int)), rs.length = n → (∀ r ∈ rs, RowOk l r) → togS (celT l rs) = rs.length := by
  intro n
  induction n with
  | zero =>
    intro rs h _
    obtain rfl : rs = [] := List.length_eq_zero_iff.1 h
    rw [celT_nil, togS_rep]; rfl
  | succ n ih =>
    intro rs h hr
    obtain ⟨pre, x, rfl⟩ : ∃ pre x, rs = pre ++ [x] := ⟨rs.dropLast, rs.getLast (by rintro rfl; simp at h), (List.dropLast_concat_getLast _).symm⟩
    have hx := hr x (by simp)
    have hp := ih pre (by simp at h; exact h) (fun r hr' => hr r (by simp [hr']))
    rw [celT_snoc hs hx]
    obtain ⟨y, hy⟩ := get_lt (l := celT l pre) (i := plc l x) (by rw [celT_len]; exact plc_lt hx)
    rw [cadd_get hy, togS_set hy, hp]
    simp
    omega

theorem apaS_nn (x y : List Int) : 0 ≤ apaS x y := by
  induction x generalizing y with
  | nil => cases y <;> simp [apaS]
  | cons a x ih => cases y with
    | nil => simp [apaS]
    | cons b y => simp only [apaS]; have := ih y; omega
theorem apaS_zero {x y : List Int} (h : x.length = y.length) : apaS x y = 0 ↔ x = y := by
  induction x generalizing y with
  | nil => cases y with
    | nil => simp [apaS]
    | cons b y => simp at h
  | cons a x ih => cases y with
    | nil => simp at h
    | cons b y =>
      simp only [apaS]
      have h1 := apaS_nn x y
      simp at h
      constructor
      · intro h2
        have h3 : apaS x y = 0 := by omega
        rw [(ih h).1 h3, show a = b by omega]
      · intro h2
        injection h2 with h3 h4
        rw [(ih h).2 h4, h3]; omega
/-- what is made of numbers has these numbers -/
theorem froR_mem {rows : List (List Int)} {cells r : List Int} (h : r ∈ froR rows cells) : r ∈ rows := by
  obtain ⟨p, hp, h2⟩ := List.mem_flatMap.1 h
  rw [(List.mem_replicate.1 h2).2]
  exact (List.of_mem_zip hp).1
theorem froR_count {rows : List (List Int)} {cells : List Int} (hinj : ∀ (i j : Nat) (x : List Int), rows[i]? = some x → rows[j]? = some x → i = j) (hl : rows.length = cells.length) {i : Nat} {r : List Int} {n : Int} (hr : rows[i]? = some r) (hn : cells[i]? = some n) : (froR rows cells).count r = n.toNat := by
  induction rows generalizing cells i with
  | nil => simp at hr
  | cons p rows ih =>
    cases cells with
    | nil => simp at hn
    | cons c cells =>
      have e : froR (p :: rows) (c :: cells) = List.replicate c.toNat p ++ froR rows cells := rfl
      have hinj2 : ∀ (i j : Nat) (x : List Int), rows[i]? = some x → rows[j]? = some x → i = j := fun i j x h1 h2 => by
        have := hinj (i + 1) (j + 1) x (by simpa using h1) (by simpa using h2); omega
      have hp : p ∉ rows := fun hm => by
        obtain ⟨j, hj⟩ := List.mem_iff_getElem?.1 hm
        have := hinj 0 (j + 1) p rfl (by simpa using hj)
        omega
      rw [e, List.count_append]
      cases i with
      | zero =>
        simp at hr hn; subst hr; subst hn
        rw [List.count_replicate_self, List.count_eq_zero.2 (fun h => hp (froR_mem h))]; omega
      | succ i =>
        simp at hr hn
        have hne : p ≠ r := by rintro rfl; exact hp (List.mem_of_getElem? hr)
        rw [ih hinj2 (by simpa using hl) hr hn, List.count_eq_zero.2 (fun h => hne (List.mem_replicate.1 h).2.symm)]; omega
theorem allT_inj {l : List Col} (hs : Szs l) (i j : Nat) (x : List Int) (h1 : (allT l)[i]? = some x) (h2 : (allT l)[j]? = some x) : i = j := by
  have hi : i < prd l := by have := (List.getElem?_eq_some_iff.1 h1).1; rwa [allT_len] at this
  have hj : j < prd l := by have := (List.getElem?_eq_some_iff.1 h2).1; rwa [allT_len] at this
  rw [allT_get hi] at h1
  rw [allT_get hj] at h2
  have e := congrArg (plc l) ((Option.some.inj h1).trans (Option.some.inj h2).symm)
  rw [plc_cel hs, plc_cel hs, Nat.mod_eq_of_lt hi, Nat.mod_eq_of_lt hj] at e
  exact e
theorem celT_fro {l : List Col} (hs : Szs l) {xs : List Int} (hl : xs.length = prd l) (hnn : ∀ x ∈ xs, 0 ≤ x) : celT l (froR (allT l) xs) = xs := by
  refine List.ext_getElem? fun i => ?_
  by_cases hi : i < prd l
  · obtain ⟨n, hn⟩ := get_lt (l := xs) (i := i) (by omega)
    rw [celT_get hi, hn, cntT, froR_count (allT_inj hs) (by rw [allT_len, hl]) (allT_get hi) hn]
    have := hnn n (List.mem_of_getElem? hn)
    congr 1; omega
  · rw [List.getElem?_eq_none (by rw [celT_len]; omega), List.getElem?_eq_none (by omega)]
theorem froR_len {rows : List (List Int)} {cells : List Int} (hl : rows.length = cells.length) (hnn : ∀ x ∈ cells, 0 ≤ x) : ((froR rows cells).length : Int) = togS cells := by
  induction rows generalizing cells with
  | nil => cases cells with
    | nil => rfl
    | cons c cells => simp at hl
  | cons p rows ih =>
    cases cells with
    | nil => simp at hl
    | cons c cells =>
      have e : froR (p :: rows) (c :: cells) = List.replicate c.toNat p ++ froR rows cells := rfl
      rw [e, List.length_append, List.length_replicate, togS]
      have := ih (by simpa using hl) (fun x h => hnn x (by simp [h]))
      have := hnn c (by simp)
      omega

theorem apaE_of {a : List Col} {ra rb : List (List Int)} (h1 : wroE a ra = 0) (h2 : wroE a rb = 0) : apaE a a ra rb = 0 := by
  rw [apaE, if_pos h1, if_pos h2, if_pos rfl]
end Go.Proofs.YtlndlpjadajelaaGreat.K

namespace Go.Proofs.YtlndlpjadajelaaGreat.K
open Go.RowKit Go.Proofs.YtlndlpjadajelaaGreat.K.Ds

theorem apaS_cons (a b : Int) (x y : List Int) : apaS (a :: x) (b :: y) = max (a - b) (b - a) + apaS x y := rfl
theorem apaS_nil : apaS [] [] = 0 := rfl
theorem addAt_cons0 (a : Int) (x : List Int) (z : Int) : addAt (a :: x) (0, z) = (a + z) :: x := by simp [addAt]
theorem addAt_consS (a : Int) (x : List Int) (p : Nat) (z : Int) : addAt (a :: x) (p + 1, z) = a :: addAt x (p, z) := by simp [addAt]
theorem addAt_nil (p : Nat × Int) : addAt [] p = [] := by simp [addAt]
theorem addAt_len (x : List Int) (p : Nat × Int) : (addAt x p).length = x.length := by simp [addAt]
theorem addAt_D {x y : List Int} (h : x.length = y.length) (p : Nat) (a b : Int) : apaS (addAt x (p, a)) (addAt y (p, b)) ≤ apaS x y + max (a - b) (b - a) := by
  induction x generalizing y p with
  | nil =>
    cases y with
    | nil => rw [addAt_nil, addAt_nil, apaS_nil]; omega
    | cons => simp at h
  | cons u x ih =>
    cases y with
    | nil => simp at h
    | cons v y =>
      cases p with
      | zero => rw [addAt_cons0, addAt_cons0, apaS_cons, apaS_cons]; omega
      | succ p =>
        rw [addAt_consS, addAt_consS, apaS_cons, apaS_cons]
        have := ih (by simpa using h) p
        omega
theorem addAt_comm (x : List Int) (p q : Nat) (a b : Int) : addAt (addAt x (p, a)) (q, b) = addAt (addAt x (q, b)) (p, a) := by
  induction x generalizing p q with
  | nil => simp [addAt_nil]
  | cons u x ih =>
    cases p with
    | zero =>
      cases q with
      | zero => simp only [addAt_cons0]; congr 1; omega
      | succ q => simp only [addAt_cons0, addAt_consS]
    | succ p =>
      cases q with
      | zero => simp only [addAt_cons0, addAt_consS]
      | succ q => simp only [addAt_consS]; rw [ih]
theorem addAt_two (x : List Int) (p : Nat) (a b : Int) : addAt (addAt x (p, a)) (p, b) = addAt x (p, a + b) := by
  induction x generalizing p with
  | nil => simp [addAt_nil]
  | cons u x ih =>
    cases p with
    | zero => simp only [addAt_cons0]; congr 1; omega
    | succ p => simp only [addAt_consS]; rw [ih]
theorem addAt_zero (x : List Int) (p : Nat) : addAt x (p, 0) = x := by
  induction x generalizing p with
  | nil => simp [addAt_nil]
  | cons u x ih =>
    cases p with
    | zero => simp only [addAt_cons0]; congr 1; omega
    | succ p => simp only [addAt_consS]; rw [ih]

/-- rows, each so often -/
def wgt (ps : List (Nat × Int × Int)) (f : List Int → Nat × Int) : List (List Int) → List Int → List Int → List Int
  | r :: rows, c :: cs, out => wgt ps f rows cs (if pasB ps r then addAt out ((f r).1, c * (f r).2) else out)
  | _, _, out => out
theorem wgt_add (ps : List (Nat × Int × Int)) (f : List Int → Nat × Int) (rows : List (List Int)) : ∀ (c out : List Int) (p : Nat) (a : Int), wgt ps f rows c (addAt out (p, a)) = addAt (wgt ps f rows c out) (p, a) := by
  induction rows with
  | nil => intro c out p a; simp [wgt]
  | cons r rows ih =>
    intro c out p a
    cases c with
    | nil => simp [wgt]
    | cons c cs =>
      simp only [wgt]
      split
      · rw [addAt_comm, ih]
      · exact ih _ _ _ _
theorem wgt_zero (ps : List (Nat × Int × Int)) (f : List Int → Nat × Int) (rows : List (List Int)) : ∀ (n : Nat) (out : List Int), wgt ps f rows (List.replicate n 0) out = out := by
  induction rows with
  | nil => intro n out; simp [wgt]
  | cons r rows ih =>
    intro n out
    cases n with
    | zero => simp [wgt]
    | succ n =>
      rw [List.replicate_succ]
      simp only [wgt, Int.zero_mul, addAt_zero]
      split <;> exact ih _ _
theorem wgt_cadd (ps : List (Nat × Int × Int)) (f : List Int → Nat × Int) (rows : List (List Int)) : ∀ (c out : List Int) (j : Nat) (r : List Int), c.length = rows.length → rows[j]? = some r → wgt ps f rows (cadd c j) out = gst ps f (wgt ps f rows c out) r := by
  induction rows with
  | nil => intro c out j r _ h; simp at h
  | cons r0 rows ih =>
    intro c out j r hl hj
    cases c with
    | nil => simp at hl
    | cons c cs =>
      cases j with
      | zero =>
        simp at hj
        subst hj
        have e : cadd (c :: cs) 0 = (c + 1) :: cs := by simp [cadd]
        rw [e]
        simp only [wgt]
        by_cases hp : pasB ps r0
        · rw [gst, if_pos hp, if_pos hp, if_pos hp, Int.add_mul, Int.one_mul, ← addAt_two, wgt_add]
        · rw [gst, if_neg hp, if_neg hp, if_neg hp]
      | succ j =>
        have e : cadd (c :: cs) (j + 1) = c :: cadd cs j := by simp [cadd]
        rw [e]
        simp only [wgt]
        exact ih _ _ _ _ (by simpa using hl) (by simpa using hj)
theorem wgt_D {ps : List (Nat × Int × Int)} {f : List Int → Nat × Int} {M : Int} (rows : List (List Int)) (hf : ∀ r ∈ rows, -M ≤ (f r).2 ∧ (f r).2 ≤ M) : ∀ (c c' out out' : List Int), c.length = rows.length → c'.length = rows.length → out.length = out'.length → apaS (wgt ps f rows c out) (wgt ps f rows c' out') ≤ apaS out out' + M * apaS c c' := by
  induction rows with
  | nil =>
    intro c c' out out' h1 h2 _
    obtain rfl := List.length_eq_zero_iff.1 h1
    obtain rfl := List.length_eq_zero_iff.1 h2
    simp [wgt, apaS_nil]
  | cons r rows ih =>
    intro c c' out out' h1 h2 h3
    cases c with
    | nil => simp at h1
    | cons c cs =>
      cases c' with
      | nil => simp at h2
      | cons d ds =>
        simp only [wgt]
        rw [apaS_cons, Int.mul_add]
        have hM := hf r (List.mem_cons_self ..)
        have hr := fun r' (h : r' ∈ rows) => hf r' (List.mem_cons_of_mem _ h)
        have key : max (c * (f r).2 - d * (f r).2) (d * (f r).2 - c * (f r).2) ≤ M * max (c - d) (d - c) := by
          have e1 : c * (f r).2 - d * (f r).2 = (c - d) * (f r).2 := by rw [Int.sub_mul]
          have e2 : d * (f r).2 - c * (f r).2 = (d - c) * (f r).2 := by rw [Int.sub_mul]
          have h4 := mul_abs (a := c - d) (b := (f r).2) (M := max (c - d) (d - c)) (N := M) (by omega) hM
          have h5 := mul_abs (a := d - c) (b := (f r).2) (M := max (c - d) (d - c)) (N := M) (by omega) hM
          rw [e1, e2, Int.mul_comm M]
          omega
        have hMn : 0 ≤ M * max (c - d) (d - c) := Int.mul_nonneg (by omega) (by omega)
        by_cases hp : pasB ps r
        · rw [if_pos hp, if_pos hp]
          have h6 := ih hr cs ds (addAt out ((f r).1, c * (f r).2)) (addAt out' ((f r).1, d * (f r).2)) (by simpa using h1) (by simpa using h2) (by rw [addAt_len, addAt_len]; exact h3)
          have h7 := addAt_D h3 (f r).1 (c * (f r).2) (d * (f r).2)
          omega
        · rw [if_neg hp, if_neg hp]
          have h6 := ih hr cs ds out out' (by simpa using h1) (by simpa using h2) h3
          omega
theorem gat_wgt {l : List Col} (hs : Szs l) {n : Nat} {ps : List (Nat × Int × Int)} {f : List Int → Nat × Int} {rs : List (List Int)} (hok : ∀ r ∈ rs, RowOk l r) : gat n ps f rs = wgt ps f (allT l) (celT l rs) (List.replicate n 0) := by
  have h : ∀ i, i ≤ rs.length → gat n ps f (rs.take i) = wgt ps f (allT l) (celT l (rs.take i)) (List.replicate n 0) := by
    intro i
    induction i with
    | zero => intro _; rw [List.take_zero, celT_nil, wgt_zero]; rfl
    | succ i ih =>
      intro hi
      obtain ⟨r, hr⟩ := get_lt (l := rs) (i := i) (by omega)
      have hro := hok r (List.mem_of_getElem? hr)
      have ht : rs.take (i + 1) = rs.take i ++ [r] := by rw [List.take_add_one, hr]; rfl
      have hlt := plc_lt hro
      have hg : (allT l)[plc l r]? = some r := by rw [allT_get hlt, cel_plc hs hro]
      have h1 : gat n ps f (rs.take i ++ [r]) = gst ps f (gat n ps f (rs.take i)) r := by unfold gat; rw [List.foldl_append]; rfl
      rw [ht, h1, ih (by omega), celT_snoc hs hro, wgt_cadd ps f _ _ _ _ _ (by rw [celT_len, allT_len]) hg]
  have := h rs.length (Nat.le_refl _)
  rwa [List.take_length] at this
theorem gat_D {l : List Col} (hs : Szs l) {n : Nat} {ps : List (Nat × Int × Int)} {f : List Int → Nat × Int} {M : Int} {rs us : List (List Int)} (h1 : ∀ r ∈ rs, RowOk l r) (h2 : ∀ r ∈ us, RowOk l r) (hf : ∀ r, -M ≤ (f r).2 ∧ (f r).2 ≤ M) : apaS (gat n ps f rs) (gat n ps f us) ≤ M * apaS (celT l rs) (celT l us) := by
  rw [gat_wgt hs h1, gat_wgt hs h2]
  have := wgt_D (ps := ps) (allT l) (fun r _ => hf r) (celT l rs) (celT l us) (List.replicate n 0) (List.replicate n 0) (by rw [celT_len, allT_len]) (by rw [celT_len, allT_len]) rfl
  have e : apaS (List.replicate n (0 : Int)) (List.replicate n 0) = 0 := (apaS_zero rfl).2 rfl
  omega

theorem zip_D (f : Int → Int → Int) (hf : ∀ a b a' b' : Int, max (f a b - f a' b') (f a' b' - f a b) ≤ max (a - a') (a' - a) + max (b - b') (b' - b)) : ∀ (x y x' y' : List Int), x.length = x'.length → y.length = y'.length → x.length = y.length → apaS (List.zipWith f x y) (List.zipWith f x' y') ≤ apaS x x' + apaS y y' := by
  intro x
  induction x with
  | nil =>
    intro y x' y' h1 h2 h3
    obtain rfl := List.length_eq_zero_iff.1 h1.symm
    obtain rfl := List.length_eq_zero_iff.1 h3.symm
    obtain rfl := List.length_eq_zero_iff.1 h2.symm
    simp [apaS_nil]
  | cons a x ih =>
    intro y x' y' h1 h2 h3
    match y, x', y', h1, h2, h3 with
    | b :: y, a' :: x', b' :: y', h1, h2, h3 =>
      simp only [List.zipWith_cons_cons, apaS_cons]
      have := ih y x' y' (by simpa using h1) (by simpa using h2) (by simpa using h3)
      have := hf a b a' b'
      omega
theorem map_D (f : Int → Int) (M : Int) (hf : ∀ a a' : Int, max (f a - f a') (f a' - f a) ≤ M * max (a - a') (a' - a)) : ∀ (x x' : List Int), x.length = x'.length → apaS (x.map f) (x'.map f) ≤ M * apaS x x' := by
  intro x
  induction x with
  | nil => intro x' h; obtain rfl := List.length_eq_zero_iff.1 h.symm; simp [apaS_nil]
  | cons a x ih =>
    intro x' h
    match x', h with
    | a' :: x', h =>
      simp only [List.map_cons, apaS_cons, Int.mul_add]
      have := ih x' (by simpa using h)
      have := hf a a'
      omega
theorem app_D : ∀ (x x' y y' : List Int), x.length = x'.length → apaS (x ++ y) (x' ++ y') = apaS x x' + apaS y y' := by
  intro x
  induction x with
  | nil => intro x' y y' h; obtain rfl := List.length_eq_zero_iff.1 h.symm; simp [apaS_nil]
  | cons a x ih =>
    intro x' y y' h
    match x', h with
    | a' :: x', h =>
      simp only [List.cons_append, apaS_cons]
      rw [ih x' y y' (by simpa using h)]
      omega
theorem sm_D : ∀ (x x' : List Int), x.length = x'.length → max (smL x - smL x') (smL x' - smL x) ≤ apaS x x' := by
  intro x
  induction x with
  | nil => intro x' h; obtain rfl := List.length_eq_zero_iff.1 h.symm; simp [apaS_nil, smL]
  | cons a x ih =>
    intro x' h
    match x', h with
    | a' :: x', h =>
      simp only [smL, apaS_cons]
      have := ih x' (by simpa using h)
      omega
theorem pick_D : ∀ (x x' : List Int) (i : Nat), x.length = x'.length → max (x.getD i 0 - x'.getD i 0) (x'.getD i 0 - x.getD i 0) ≤ apaS x x' := by
  intro x
  induction x with
  | nil => intro x' i h; obtain rfl := List.length_eq_zero_iff.1 h.symm; simp [apaS_nil]
  | cons a x ih =>
    intro x' i h
    match x', h with
    | a' :: x', h =>
      have hn := apaS_nn x x'
      cases i with
      | zero => simp only [List.getD_cons_zero, apaS_cons]; omega
      | succ i =>
        simp only [List.getD_cons_succ, apaS_cons]
        have := ih x' i (by simpa using h)
        omega

/-- METRIC PRESERVATION -/
theorem ans_D {l : List Col} (hs : Szs l) {rs us : List (List Int)} (hl : rs.length ≤ 4096) (hl' : us.length ≤ 4096) (h1 : ∀ r ∈ rs, RowOk l r) (h2 : ∀ r ∈ us, RowOk l r) (q : Qu) : ∀ (lv : Nat) (b : Bnd), bnd l lv q = .ok b → apaS (ans l rs q) (ans l us q) ≤ b.2.1 * apaS (celT l rs) (celT l us) := by
  have hN := apaS_nn (celT l rs) (celT l us)
  induction q with
  | none => intro lv b h; simp only [bnd] at h; cases h; simp [ans, apaS_nil]
  | node k c lo hi wh n x y ihx ihy =>
    intro lv b h
    obtain ⟨hk, ⟨x1, x2, x3⟩, ⟨y1, y2, y3⟩, hbx, hby, hr, hlim⟩ := lim_inv h
    have bx : 1 ≤ n → apaS (ans l rs x) (ans l us x) ≤ x2 * apaS (celT l rs) (celT l us) ∧ (ans l rs x).length = (ans l us x).length ∧ (x ≠ .none → ((ans l rs x).length : Int) = x1) := fun hn => by
      rw [ifK, if_pos hn] at hbx
      refine ⟨ihx _ _ hbx, ?_, fun hx => (ans_ok hs hl x _ _ hbx hx).1⟩
      by_cases hx : x = .none
      · rw [hx]; rfl
      · have e1 := (ans_ok hs hl x _ _ hbx hx).1
        have e2 := (ans_ok hs hl' x _ _ hbx hx).1
        omega
    have b_y : 2 ≤ n → apaS (ans l rs y) (ans l us y) ≤ y2 * apaS (celT l rs) (celT l us) ∧ (ans l rs y).length = (ans l us y).length ∧ (y ≠ .none → ((ans l rs y).length : Int) = y1) := fun hn => by
      rw [ifK, if_pos hn] at hby
      refine ⟨ihy _ _ hby, ?_, fun hy => (ans_ok hs hl y _ _ hby hy).1⟩
      by_cases hy : y = .none
      · rw [hy]; rfl
      · have e1 := (ans_ok hs hl y _ _ hby hy).1
        have e2 := (ans_ok hs hl' y _ _ hby hy).1
        omega
    have zx : 1 ≤ n → x = .none → x1 = 0 := fun hn hx => by
      rw [ifK, if_pos hn, hx] at hbx; simp only [bnd] at hbx; cases hbx; rfl
    have zy : 2 ≤ n → y = .none → y1 = 0 := fun hn hy => by
      rw [ifK, if_pos hn, hy] at hby; simp only [bnd] at hby; cases hby; rfl
    have lx : 1 ≤ n → ((ans l rs x).length : Int) = x1 := fun hn => by
      by_cases hx : x = .none
      · rw [zx hn hx, hx]; rfl
      · exact (bx hn).2.2 hx
    have ly : 2 ≤ n → ((ans l rs y).length : Int) = y1 := fun hn => by
      by_cases hy : y = .none
      · rw [zy hn hy, hy]; rfl
      · exact (b_y hn).2.2 hy
    clear hbx hby ihx ihy zx zy
    have hkc : ¬ kidN k < 0 := by omega
    rcases kidN_cases hkc with rfl | rfl | rfl | rfl | rfl | rfl | rfl | rfl | rfl | rfl
    · simp [rec] at hr
      obtain ⟨_, rfl⟩ := ifW_ok hr
      rw [ans_leaf _ _ _ _ _ _ _ _ _ (by simp), ans_leaf _ _ _ _ _ _ _ _ _ (by simp)]
      exact gat_D hs h1 h2 (fun r => by simp [stp])
    · simp [rec] at hr
      split at hr
      · split at hr
        · rename_i hw
          obtain ⟨_, rfl⟩ := ifW_ok hr
          rw [ans_leaf _ _ _ _ _ _ _ _ _ (by simp), ans_leaf _ _ _ _ _ _ _ _ _ (by simp)]
          exact gat_D hs h1 h2 (fun r => by simpa [stp] using inT_bd hw)
        · cases hr
      · cases hr
    · simp [rec] at hr
      split at hr
      · obtain ⟨_, rfl⟩ := ifW_ok hr
        rw [ans_leaf _ _ _ _ _ _ _ _ _ (by simp), ans_leaf _ _ _ _ _ _ _ _ _ (by simp)]
        exact gat_D hs h1 h2 (fun r => by simp [stp])
      · cases hr
    · simp [rec] at hr
      have hn : n = 2 := by simp [kidN] at hk; omega
      obtain ⟨e1, e2, _⟩ := bx (by omega)
      obtain ⟨e3, e4, _⟩ := b_y (by omega)
      have e5 := lx (by omega)
      have e6 := ly (by omega)
      split at hr
      · cases hr
        rw [ans_4, ans_4]
        have := zip_D (· + ·) (fun a b a' b' => by omega) _ _ _ _ e2 e4 (by omega)
        simp only [Int.add_mul]
        omega
      · cases hr
    · simp [rec] at hr
      have hn : n = 2 := by simp [kidN] at hk; omega
      obtain ⟨e1, e2, _⟩ := bx (by omega)
      obtain ⟨e3, e4, _⟩ := b_y (by omega)
      have e5 := lx (by omega)
      have e6 := ly (by omega)
      split at hr
      · cases hr
        rw [ans_5, ans_5]
        have := zip_D (· - ·) (fun a b a' b' => by omega) _ _ _ _ e2 e4 (by omega)
        simp only [Int.add_mul]
        omega
      · cases hr
    · simp [rec] at hr
      have hn : n = 1 := by simp [kidN] at hk; omega
      obtain ⟨e1, e2, _⟩ := bx (by omega)
      split at hr
      · rename_i hw
        cases hr
        rw [ans_6, ans_6]
        have hsp := spn_bd hw
        have hlo : -spn lo lo ≤ lo ∧ lo ≤ spn lo lo := by unfold spn; split <;> omega
        have := map_D (lo * ·) (spn lo lo) (fun a a' => by
          have h4 := mul_abs (a := lo) (b := a - a') (M := spn lo lo) (N := max (a - a') (a' - a)) hlo (by omega)
          have h5 : lo * a - lo * a' = lo * (a - a') := by rw [Int.mul_sub]
          omega) _ _ e2
        have h6 := Int.mul_le_mul_of_nonneg_left e1 hsp.1
        simp only
        rw [Int.mul_assoc]
        omega
      · cases hr
    · simp [rec] at hr
      have hn : n = 2 := by simp [kidN] at hk; omega
      obtain ⟨e1, e2, _⟩ := bx (by omega)
      obtain ⟨e3, e4, _⟩ := b_y (by omega)
      cases hr
      rw [ans_7, ans_7, app_D _ _ _ _ e2]
      simp only [Int.add_mul]
      omega
    · simp [rec] at hr
      have hn : n = 1 := by simp [kidN] at hk; omega
      obtain ⟨e1, e2, _⟩ := bx (by omega)
      cases hr
      rw [ans_8, ans_8, apaS_cons, apaS_nil]
      have := sm_D _ _ e2
      simp only
      omega
    · simp [rec] at hr
      have hn : n = 1 := by simp [kidN] at hk; omega
      obtain ⟨e1, e2, _⟩ := bx (by omega)
      split at hr
      · cases hr
        rw [ans_9, ans_9, apaS_cons, apaS_nil]
        have := pick_D _ _ lo.toNat e2
        simp only
        omega
      · cases hr
    · simp [rec] at hr
      have hn : n = 1 := by simp [kidN] at hk; omega
      obtain ⟨e1, e2, _⟩ := bx (by omega)
      split at hr
      · rename_i hw
        cases hr
        rw [ans_10, ans_10]
        have := map_D (inT lo hi) 1 (fun a a' => by
          simp only [wrtB, decide_eq_true_eq] at hw
          unfold inT
          repeat' split
          all_goals omega) _ _ e2
        simp only
        omega
      · cases hr
end Go.Proofs.YtlndlpjadajelaaGreat.K

namespace Go.Proofs.YtlndlpjadajelaaGreat.K
open Go.RowKit Go.Proofs.YtlndlpjadajelaaGreat.K.Ds

/-! ### tables that are one row apart -/
theorem apaS_map_zero {L : List (List Int)} {f g : List Int → Int} (h : apaS (L.map f) (L.map g) = 0) : ∀ y ∈ L, f y = g y := by
  have := (apaS_zero (x := L.map f) (y := L.map g) (by simp)).1 h
  intro y hy
  exact (List.map_inj_left.1 this) y hy
theorem apaS_map_one {f g : List Int → Int} : ∀ {L : List (List Int)}, apaS (L.map f) (L.map g) = 1 → ∃ x ∈ L, (∀ y ∈ L, y ≠ x → f y = g y) ∧ (g x = f x + 1 ∨ f x = g x + 1)
  | [], h => by simp [apaS_nil] at h
  | x :: L, h => by
    rw [List.map_cons, List.map_cons, apaS_cons] at h
    have hn := apaS_nn (L.map f) (L.map g)
    by_cases c : f x = g x
    · have h' : apaS (L.map f) (L.map g) = 1 := by omega
      obtain ⟨z, hz, h1, h2⟩ := apaS_map_one h'
      refine ⟨z, by simp [hz], fun y hy hne => ?_, h2⟩
      rcases List.mem_cons.1 hy with rfl | hy
      · exact c
      · exact h1 y hy hne
    · have h' : apaS (L.map f) (L.map g) = 0 := by omega
      refine ⟨x, by simp, fun y hy hne => ?_, by omega⟩
      rcases List.mem_cons.1 hy with rfl | hy
      · exact absurd rfl hne
      · exact apaS_map_zero h' y hy
theorem mem_allT {l : List Col} (hs : Szs l) {r : List Int} (h : RowOk l r) : r ∈ allT l := by
  have := allT_get (l := l) (plc_lt h)
  rw [cel_plc hs h] at this
  exact List.mem_of_getElem? this
theorem perm_of {rs us : List (List Int)} {x : List Int} (h : ∀ y, us.count y = rs.count y + if y = x then 1 else 0) : us.Perm (x :: rs) := by
  rw [List.perm_iff_count]
  intro y
  rw [h y, List.count_cons]
  by_cases c : y = x
  · subst c; simp
  · rw [if_neg c, if_neg (by simpa using fun e => c e.symm)]
/-- ONE ROW MORE OR LESS -/
theorem near_perm {l : List Col} (hs : Szs l) {rs us : List (List Int)} (h1 : ∀ r ∈ rs, RowOk l r) (h2 : ∀ r ∈ us, RowOk l r) (hD : apaS (celT l rs) (celT l us) = 1) : ∃ r, RowOk l r ∧ (us.Perm (r :: rs) ∨ rs.Perm (r :: us)) := by
  unfold celT at hD
  obtain ⟨x, hx, hy, ho⟩ := apaS_map_one hD
  have hok := allT_mem hs hx
  have hne : ∀ y, y ≠ x → rs.count y = us.count y := fun y hne => by
    by_cases c : RowOk l y
    · have := hy y (mem_allT hs c) hne
      unfold cntT at this
      omega
    · rw [List.count_eq_zero.2 (fun hm => c (h1 y hm)), List.count_eq_zero.2 (fun hm => c (h2 y hm))]
  unfold cntT at ho
  refine ⟨x, hok, ?_⟩
  rcases ho with ho | ho
  · refine .inl (perm_of fun y => ?_)
    by_cases c : y = x
    · subst c; rw [if_pos rfl]; omega
    · rw [if_neg c, hne y c]; omega
  · refine .inr (perm_of fun y => ?_)
    by_cases c : y = x
    · subst c; rw [if_pos rfl]; omega
    · rw [if_neg c, hne y c]; omega
theorem apaS_self : ∀ x : List Int, apaS x x = 0 := fun _ => (apaS_zero rfl).2 rfl
theorem apaS_cadd : ∀ (x : List Int) (k : Nat), k < x.length → apaS x (cadd x k) = 1
  | [], k, h => by simp at h
  | a :: x, 0, _ => by
    have e : cadd (a :: x) 0 = (a + 1) :: x := by simp [cadd]
    rw [e, apaS_cons, apaS_self]
    omega
  | a :: x, k + 1, h => by
    have e : cadd (a :: x) (k + 1) = a :: cadd x k := by simp [cadd]
    rw [e, apaS_cons, apaS_cadd x k (by simpa using h)]
    omega
theorem cel_perm {l : List Col} {rs us : List (List Int)} (h : rs.Perm us) : celT l rs = celT l us := by
  unfold celT cntT
  exact List.map_congr_left fun y _ => by rw [h.count_eq y]
/-- an answer's first place -/
theorem head_perm {l : List Col} (hs : Szs l) {R R' : List (List Int)} (hl : R.length ≤ 4096) (h1 : ∀ r ∈ R, RowOk l r) (hp : R.Perm R') (q : Qu) {b : Bnd} (hb : bnd l 1 q = .ok b) (hq : q ≠ .none) : (ans l R q).headD 0 = (ans l R' q).headD 0 := by
  have h2 : ∀ r ∈ R', RowOk l r := fun r hr => h1 r (hp.mem_iff.2 hr)
  have hl' : R'.length ≤ 4096 := by rw [← hp.length_eq]; exact hl
  have hd := ans_D hs hl hl' h1 h2 q 1 b hb
  rw [cel_perm hp, apaS_self, Int.mul_zero] at hd
  have hn := apaS_nn (ans l R q) (ans l R' q)
  have e1 := (ans_ok hs hl q 1 b hb hq).1
  have e2 := (ans_ok hs hl' q 1 b hb hq).1
  rw [(apaS_zero (by omega)).1 (show apaS (ans l R q) (ans l R' q) = 0 by omega)]
theorem headD_getD (x : List Int) : x.headD 0 = x.getD 0 0 := by cases x <;> rfl
theorem head_near {l : List Col} (hs : Szs l) {R : List (List Int)} {r : List Int} (hl : R.length + 1 ≤ 4096) (h1 : ∀ r ∈ R, RowOk l r) (hr : RowOk l r) (q : Qu) {b : Bnd} (hb : bnd l 1 q = .ok b) (hq : q ≠ .none) :
    max ((ans l R q).headD 0 - (ans l (R ++ [r]) q).headD 0) ((ans l (R ++ [r]) q).headD 0 - (ans l R q).headD 0) ≤ b.2.1 := by
  have h2 : ∀ x ∈ R ++ [r], RowOk l x := fun x hx => by
    rcases List.mem_append.1 hx with h | h
    · exact h1 x h
    · obtain rfl : x = r := by simpa using h
      exact hr
  have hl' : (R ++ [r]).length ≤ 4096 := by simp; omega
  have hd := ans_D hs (by omega) hl' h1 h2 q 1 b hb
  rw [celT_snoc hs hr, apaS_cadd _ _ (by rw [celT_len]; exact plc_lt hr), Int.mul_one] at hd
  have e1 := (ans_ok hs (show R.length ≤ 4096 by omega) q 1 b hb hq).1
  have e2 := (ans_ok hs hl' q 1 b hb hq).1
  have := pick_D (ans l R q) (ans l (R ++ [r]) q) 0 (by omega)
  rw [headD_getD, headD_getD]
  omega
end Go.Proofs.YtlndlpjadajelaaGreat.K
