import Derived.Test.YtlndlpjadajelaaGreatQp32
import Derived.Test.YtlndlpjadajelaaGreatQp46
import Derived.Test.YtlndlpjadajelaaGreatQp37
import Derived.Deep.SlicePairs
import Derived.Deep.Slices
import Derived.ProofKit
import Derived.OpenShut
import Derived.Lib.SmallJoins
import Derived.Carry
namespace Go.Proofs.YtlndlpjadajelaaGreat.K
open Go.RowKit Go.Proofs.YtlndlpjadajelaaGreat.K.Ds

theorem apaS_cons (a b : Int) (x y : List Int) : apaS (a :: x) (b :: y) = max (a - b) (b - a) + apaS x y := rfl
theorem apaS_nil : apaS [] [] = 0 := rfl
theorem addAt_cons0 (a : Int) (x : List Int) (z : Int) : addAt (a :: x) (0, z) = (a + z) :: x := by simp [addAt]
theorem addAt_consS (a : Int) (x : List Int) (p : Nat) (z : Int) : addAt (a :: x) (p + 1, z) = a :: addAt x (p, z) := by simp [addAt]
theorem addAt_nil (p : Nat × Int) : addAt [] p = [] := by simp [addAt]
theorem addAt_len (x : List Int) (p : Nat × Int) : (addAt x p).length = x.length := by simp [addAt]
theorem addAt_D {x y : List Int} (h : x.length = y.length) (p : Nat) (a b : Int) : apaS (addAt x (p, a)) (addAt y (p, b)) ≤ apaS x y + max (a - b) (b - a) := by
  induction x generalizing y p with
  | nil =>
    cases y with
    | nil => rw [addAt_nil, addAt_nil, apaS_nil]; omega
    | cons => simp at h
  | cons u x ih =>
    cases y with
    | nil => simp at h
    | cons v y =>
      cases p with
      | zero => rw [addAt_cons0, addAt_cons0, apaS_cons, apaS_cons]; omega
      | succ p =>
        rw [addAt_consS, addAt_consS, apaS_cons, apaS_cons]
        have := ih (by simpa using h) p
        omega
theorem addAt_comm (x : List Int) (p q : Nat) (a b : Int) : addAt (addAt x (p, a)) (q, b) = addAt (addAt x (q, b)) (p, a) := by
  induction x generalizing p q with
  | nil => simp [addAt_nil]
  | cons u x ih =>
    cases p with
    | zero =>
      cases q with
      | zero => simp only [addAt_cons0]; congr 1; omega
      | succ q => simp only [addAt_cons0, addAt_consS]
    | succ p =>
      cases q with
      | zero => simp only [addAt_cons0, addAt_consS]
      | succ q => simp only [addAt_consS]; rw [ih]
theorem addAt_two (x : List Int) (p : Nat) (a b : Int) : addAt (addAt x (p, a)) (p, b) = addAt x (p, a + b) := by
  induction x generalizing p with
  | nil => simp [addAt_nil]
  | cons u x ih =>
    cases p with
    | zero => simp only [addAt_cons0]; congr 1; omega
    | succ p => simp only [addAt_consS]; rw [ih]
theorem addAt_zero (x : List Int) (p : Nat) : addAt x (p, 0) = x := by
  induction x generalizing p with
  | nil => simp [addAt_nil]
  | cons u x ih =>
    cases p with
    | zero => simp only [addAt_cons0]; congr 1; omega
    | succ p => simp only [addAt_consS]; rw [ih]

/-- rows, each so often -/
def wgt (ps : List (Nat × Int × Int)) (f : List Int → Nat × Int) : List (List Int) → List Int → List Int → List Int
  | r :: rows, c :: cs, out => wgt ps f rows cs (if pasB ps r then addAt out ((f r).1, c * (f r).2) else out)
  | _, _, out => out
theorem wgt_add (ps : List (Nat × Int × Int)) (f : List Int → Nat × Int) (rows : List (List Int)) : ∀ (c out : List Int) (p : Nat) (a : Int), wgt ps f rows c (addAt out (p, a)) = addAt (wgt ps f rows c out) (p, a) := by
  induction rows with
  | nil => intro c out p a; simp [wgt]
  | cons r rows ih =>
    intro c out p a
    cases c with
    | nil => simp [wgt]
    | cons c cs =>
      simp only [wgt]
      split
      · rw [addAt_comm, ih]
      · exact ih _ _ _ _
theorem wgt_zero (ps : List (Nat × Int × Int)) (f : List Int → Nat × Int) (rows : List (List Int)) : ∀ (n : Nat) (out : List Int), wgt ps f rows (List.replicate n 0) out = out := by
  induction rows with
  | nil => intro n out; simp [wgt]
  | cons r rows ih =>
    intro n out
    cases n with
    | zero => simp [wgt]
    | succ n =>
      rw [List.replicate_succ]
      simp only [wgt, Int.zero_mul, addAt_zero]
      split <;> exact ih _ _
theorem wgt_cadd (ps : List (Nat × Int × Int)) (f : List Int → Nat × Int) (rows : List (List Int)) : ∀ (c out : List Int) (j : Nat) (r : List Int), c.length = rows.length → rows[j]? = some r → wgt ps f rows (cadd c j) out = gst ps f (wgt ps f rows c out) r := by
  induction rows with
  | nil => intro c out j r _ h; simp at h
  | cons r0 rows ih =>
    intro c out j r hl hj
    cases c with
    | nil => simp at hl
    | cons c cs =>
      cases j with
      | zero =>
        simp at hj
        subst hj
        have e : cadd (c :: cs) 0 = (c + 1) :: cs := by simp [cadd]
        rw [e]
        simp only [wgt]
        by_cases hp : pasB ps r0
        · rw [gst, if_pos hp, if_pos hp, if_pos hp, Int.add_mul, Int.one_mul, ← addAt_two, wgt_add]
        · rw [gst, if_neg hp, if_neg hp, if_neg hp]
      | succ j =>
        have e : cadd (c :: cs) (j + 1) = c :: cadd cs j := by simp [cadd]
        rw [e]
        simp only [wgt]
        exact ih _ _ _ _ (by simpa using hl) (by simpa using hj)
theorem wgt_D {ps : List (Nat × Int × Int)} {f : List Int → Nat × Int} {M : Int} (rows : List (List Int)) (hf : ∀ r ∈ rows, -M ≤ (f r).2 ∧ (f r).2 ≤ M) : ∀ (c c' out out' : List Int), c.length = rows.length → c'.length = rows.length → out.length = out'.length → apaS (wgt ps f rows c out) (wgt ps f rows c' out') ≤ apaS out out' + M * apaS c c' := by
  induction rows with
  | nil =>
    intro c c' out out' h1 h2 _
    obtain rfl := List.length_eq_zero_iff.1 h1
    obtain rfl := List.length_eq_zero_iff.1 h2
    simp [wgt, apaS_nil]
  | cons r rows ih =>
    intro c c' out out' h1 h2 h3
    cases c with
    | nil => simp at h1
    | cons c cs =>
      cases c' with
      | nil => simp at h2
      | cons d ds =>
        simp only [wgt]
        rw [apaS_cons, Int.mul_add]
        have hM := hf r (List.mem_cons_self ..)
        have hr := fun r' (h : r' ∈ rows) => hf r' (List.mem_cons_of_mem _ h)
        have key : max (c * (f r).2 - d * (f r).2) (d * (f r).2 - c * (f r).2) ≤ M * max (c - d) (d - c) := by
          have e1 : c * (f r).2 - d * (f r).2 = (c - d) * (f r).2 := by rw [Int.sub_mul]
          have e2 : d * (f r).2 - c * (f r).2 = (d - c) * (f r).2 := by rw [Int.sub_mul]
          have h4 := mul_abs (a := c - d) (b := (f r).2) (M := max (c - d) (d - c)) (N := M) (by omega) hM
          have h5 := mul_abs (a := d - c) (b := (f r).2) (M := max (c - d) (d - c)) (N := M) (by omega) hM
          rw [e1, e2, Int.mul_comm M]
          omega
        have hMn : 0 ≤ M * max (c - d) (d - c) := Int.mul_nonneg (by omega) (by omega)
        by_cases hp : pasB ps r
        · rw [if_pos hp, if_pos hp]
          have h6 := ih hr cs ds (addAt out ((f r).1, c * (f r).2)) (addAt out' ((f r).1, d * (f r).2)) (by simpa using h1) (by simpa using h2) (by rw [addAt_len, addAt_len]; exact h3)
          have h7 := addAt_D h3 (f r).1 (c * (f r).2) (d * (f r).2)
          omega
        · rw [if_neg hp, if_neg hp]
          have h6 := ih hr cs ds out out' (by simpa using h1) (by simpa using h2) h3
          omega
theorem gat_wgt {l : List Col} (hs : Szs l) {n : Nat} {ps : List (Nat × Int × Int)} {f : List Int → Nat × Int} {rs : List (List Int)} (hok : ∀ r ∈ rs, RowOk l r) : gat n ps f rs = wgt ps f (allT l) (celT l rs) (List.replicate n 0) := by
  have h : ∀ i, i ≤ rs.length → gat n ps f (rs.take i) = wgt ps f (allT l) (celT l (rs.take i)) (List.replicate n 0) := by
    intro i
    induction i with
    | zero => intro _; rw [List.take_zero, celT_nil, wgt_zero]; rfl
    | succ i ih =>
      intro hi
      obtain ⟨r, hr⟩ := get_lt (l := rs) (i := i) (by omega)
      have hro := hok r (List.mem_of_getElem? hr)
      have ht : rs.take (i + 1) = rs.take i ++ [r] := by rw [List.take_add_one, hr]; rfl
      have hlt := plc_lt hro
      have hg : (allT l)[plc l r]? = some r := by rw [allT_get hlt, cel_plc hs hro]
      have h1 : gat n ps f (rs.take i ++ [r]) = gst ps f (gat n ps f (rs.take i)) r := by unfold gat; rw [List.foldl_append]; rfl
      rw [ht, h1, ih (by omega), celT_snoc hs hro, wgt_cadd ps f _ _ _ _ _ (by rw [celT_len, allT_len]) hg]
  have := h rs.length (Nat.le_refl _)
  rwa [List.take_length] at this
theorem gat_D {l : List Col} (hs : Szs l) {n : Nat} {ps : List (Nat × Int × Int)} {f : List Int → Nat × Int} {M : Int} {rs us : List (List Int)} (h1 : ∀ r ∈ rs, RowOk l r) (h2 : ∀ r ∈ us, RowOk l r) (hf : ∀ r, -M ≤ (f r).2 ∧ (f r).2 ≤ M) : apaS (gat n ps f rs) (gat n ps f us) ≤ M * apaS (celT l rs) (celT l us) := by
  rw [gat_wgt hs h1, gat_wgt hs h2]
  have := wgt_D (ps := ps) (allT l) (fun r _ => hf r) (celT l rs) (celT l us) (List.replicate n 0) (List.replicate n 0) (by rw [celT_len, allT_len]) (by rw [celT_len, allT_len]) rfl
  have e : apaS (List.replicate n (0 : Int)) (List.replicate n 0) = 0 := (apaS_zero rfl).2 rfl
  omega

theorem zip_D (f : Int → Int → Int) (hf : ∀ a b a' b' : Int, max (f a b - f a' b') (f a' b' - f a b) ≤ max (a - a') (a' - a) + max (b - b') (b' - b)) : ∀ (x y x' y' : List Int), x.length = x'.length → y.length = y'.length → x.length = y.length → apaS (List.zipWith f x y) (List.zipWith f x' y') ≤ apaS x x' + apaS y y' := by
  intro x
  induction x with
  | nil =>
    intro y x' y' h1 h2 h3
    obtain rfl := List.length_eq_zero_iff.1 h1.symm
    obtain rfl := List.length_eq_zero_iff.1 h3.symm
    obtain rfl := List.length_eq_zero_iff.1 h2.symm
    simp [apaS_nil]
  | cons a x ih =>
    intro y x' y' h1 h2 h3
    match y, x', y', h1, h2, h3 with
    | b :: y, a' :: x', b' :: y', h1, h2, h3 =>
      simp only [List.zipWith_cons_cons, apaS_cons]
      have := ih y x' y' (by simpa using h1) (by simpa using h2) (by simpa using h3)
      have := hf a b a' b'
      omega
theorem map_D (f : Int → Int) (M : Int) (hf : ∀ a a' : Int, max (f a - f a') (f a' - f a) ≤ M * max (a - a') (a' - a)) : ∀ (x x' : List Int), x.length = x'.length → apaS (x.map f) (x'.map f) ≤ M * apaS x x' := by
  intro x
  induction x with
  | nil => intro x' h; obtain rfl := List.length_eq_zero_iff.1 h.symm; simp [apaS_nil]
  | cons a x ih =>
    intro x' h
    match x', h with
    | a' :: x', h =>
      simp only [List.map_cons, apaS_cons, Int.mul_add]
      have := ih x' (by simpa using h)
      have := hf a a'
      omega
theorem app_D : ∀ (x x' y y' : List Int), x.length = x'.length → apaS (x ++ y) (x' ++ y') = apaS x x' + apaS y y' := by
  intro x
  induction x with
  | nil => intro x' y y' h; obtain rfl := List.length_eq_zero_iff.1 h.symm; simp [apaS_nil]
  | cons a x ih =>
    intro x' y y' h
    match x', h with
    | a' :: x', h =>
      simp only [List.cons_append, apaS_cons]
      rw [ih x' y y' (by simpa using h)]
      omega
theorem sm_D : ∀ (x x' : List Int), x.length = x'.length → max (smL x - smL x') (smL x' - smL x) ≤ apaS x x' := by
  intro x
  induction x with
  | nil => intro x' h; obtain rfl := List.length_eq_zero_iff.1 h.symm; simp [apaS_nil, smL]
  | cons a x ih =>
    intro x' h
    match x', h with
    | a' :: x', h =>
      simp only [smL, apaS_cons]
      have := ih x' (by simpa using h)
      omega
theorem pick_D : ∀ (x x' : List Int) (i : Nat), x.length = x'.length → max (x.getD i 0 - x'.getD i 0) (x'.getD i 0 - x.getD i 0) ≤ apaS x x' := by
  intro x
  induction x with
  | nil => intro x' i h; obtain rfl := List.length_eq_zero_iff.1 h.symm; simp [apaS_nil]
  | cons a x ih =>
    intro x' i h
    match x', h with
    | a' :: x', h =>
      have hn := apaS_nn x x'
      cases i with
      | zero => simp only [List.getD_cons_zero, apaS_cons]; omega
      | succ i =>
        simp only [List.getD_cons_succ, apaS_cons]
        have := ih x' i (by simpa using h)
        omega

/-- METRIC PRESERVATION -/
theorem ans_D {l : List Col} (hs : Szs l) {rs us : List (List Int)} (hl : rs.length ≤ 4096) (hl' : us.length ≤ 4096) (h1 : ∀ r ∈ rs, RowOk l r) (h2 : ∀ r ∈ us, RowOk l r) (q : Qu) : ∀ (lv : Nat) (b : Bnd), bnd l lv q = .ok b → apaS (ans l rs q) (ans l us q) ≤ b.2.1 * apaS (celT l rs) (celT l us) := by
  have hN := apaS_nn (celT l rs) (celT l us)
  induction q with
  | none => intro lv b h; simp only [bnd] at h; cases h; simp [ans, apaS_nil]
  | node k c lo hi wh n x y ihx ihy =>
    intro lv b h
    obtain ⟨hk, ⟨x1, x2, x3⟩, ⟨y1, y2, y3⟩, hbx, hby, hr, hlim⟩ := lim_inv h
    have bx : 1 ≤ n → apaS (ans l rs x) (ans l us x) ≤ x2 * apaS (celT l rs) (celT l us) ∧ (ans l rs x).length = (ans l us x).length ∧ (x ≠ .none → ((ans l rs x).length : Int) = x1) := fun hn => by
      rw [ifK, if_pos hn] at hbx
      refine ⟨ihx _ _ hbx, ?_, fun hx => (ans_ok hs hl x _ _ hbx hx).1⟩
      by_cases hx : x = .none
      · rw [hx]; rfl
      · have e1 := (ans_ok hs hl x _ _ hbx hx).1
        have e2 := (ans_ok hs hl' x _ _ hbx hx).1
        omega
    have b_y : 2 ≤ n → apaS (ans l rs y) (ans l us y) ≤ y2 * apaS (celT l rs) (celT l us) ∧ (ans l rs y).length = (ans l us y).length ∧ (y ≠ .none → ((ans l rs y).length : Int) = y1) := fun hn => by
      rw [ifK, if_pos hn] at hby
      refine ⟨ihy _ _ hby, ?_, fun hy => (ans_ok hs hl y _ _ hby hy).1⟩
      by_cases hy : y = .none
      · rw [hy]; rfl
      · have e1 := (ans_ok hs hl y _ _ hby hy).1
        have e2 := (ans_ok hs hl' y _ _ hby hy).1
        omega
    have zx : 1 ≤ n → x = .none → x1 = 0 := fun hn hx => by
      rw [ifK, if_pos hn, hx] at hbx; simp only [bnd] at hbx; cases hbx; rfl
    have zy : 2 ≤ n → y = .none → y1 = 0 := fun hn hy => by
      rw [ifK, if_pos hn, hy] at hby; simp only [bnd] at hby; cases hby; rfl
    have lx : 1 ≤ n → ((ans l rs x).length : Int) = x1 := fun hn => by
      by_cases hx : x = .none
      · rw [zx hn hx, hx]; rfl
      · exact (bx hn).2.2 hx
    have ly : 2 ≤ n → ((ans l rs y).length : Int) = y1 := fun hn => by
      by_cases hy : y = .none
      · rw [zy hn hy, hy]; rfl
      · exact (b_y hn).2.2 hy
    clear hbx hby ihx ihy zx zy
    have hkc : ¬ kidN k < 0 := by omega
    rcases kidN_cases hkc with rfl | rfl | rfl | rfl | rfl | rfl | rfl | rfl | rfl | rfl
    · simp [rec] at hr
      obtain ⟨_, rfl⟩ := ifW_ok hr
      rw [ans_leaf _ _ _ _ _ _ _ _ _ (by simp), ans_leaf _ _ _ _ _ _ _ _ _ (by simp)]
      exact gat_D hs h1 h2 (fun r => by simp [stp])
    · simp [rec] at hr
      split at hr
      · split at hr
        · rename_i hw
          obtain ⟨_, rfl⟩ := ifW_ok hr
          rw [ans_leaf _ _ _ _ _ _ _ _ _ (by simp), ans_leaf _ _ _ _ _ _ _ _ _ (by simp)]
          exact gat_D hs h1 h2 (fun r => by simpa [stp] using inT_bd hw)
        · cases hr
      · cases hr
    · simp [rec] at hr
      split at hr
      · obtain ⟨_, rfl⟩ := ifW_ok hr
        rw [ans_leaf _ _ _ _ _ _ _ _ _ (by simp), ans_leaf _ _ _ _ _ _ _ _ _ (by simp)]
        exact gat_D hs h1 h2 (fun r => by simp [stp])
      · cases hr
    · simp [rec] at hr
      have hn : n = 2 := by simp [kidN] at hk; omega
      obtain ⟨e1, e2, _⟩ := bx (by omega)
      obtain ⟨e3, e4, _⟩ := b_y (by omega)
      have e5 := lx (by omega)
      have e6 := ly (by omega)
      split at hr
      · cases hr
        rw [ans_4, ans_4]
        have := zip_D (· + ·) (fun a b a' b' => by omega) _ _ _ _ e2 e4 (by omega)
        simp only [Int.add_mul]
        omega
      · cases hr
    · simp [rec] at hr
      have hn : n = 2 := by simp [kidN] at hk; omega
      obtain ⟨e1, e2, _⟩ := bx (by omega)
      obtain ⟨e3, e4, _⟩ := b_y (by omega)
      have e5 := lx (by omega)
      have e6 := ly (by omega)
      split at hr
      · cases hr
        rw [ans_5, ans_5]
        have := zip_D (· - ·) (fun a b a' b' => by omega) _ _ _ _ e2 e4 (by omega)
        simp only [Int.add_mul]
        omega
      · cases hr
    · simp [rec] at hr
      have hn : n = 1 := by simp [kidN] at hk; omega
      obtain ⟨e1, e2, _⟩ := bx (by omega)
      split at hr
      · rename_i hw
        cases hr
        rw [ans_6, ans_6]
        have hsp := spn_bd hw
        have hlo : -spn lo lo ≤ lo ∧ lo ≤ spn lo lo := by unfold spn; split <;> omega
        have := map_D (lo * ·) (spn lo lo) (fun a a' => by
          have h4 := mul_abs (a := lo) (b := a - a') (M := spn lo lo) (N := max (a - a') (a' - a)) hlo (by omega)
          have h5 : lo * a - lo * a' = lo * (a - a') := by rw [Int.mul_sub]
          omega) _ _ e2
        have h6 := Int.mul_le_mul_of_nonneg_left e1 hsp.1
        simp only
        rw [Int.mul_assoc]
        omega
      · cases hr
    · simp [rec] at hr
      have hn : n = 2 := by simp [kidN] at hk; omega
      obtain ⟨e1, e2, _⟩ := bx (by omega)
      obtain ⟨e3, e4, _⟩ := b_y (by omega)
      cases hr
      rw [ans_7, ans_7, app_D _ _ _ _ e2]
      simp only [Int.add_mul]
      omega
    · simp [rec] at hr
      have hn : n = 1 := by simp [kidN] at hk; omega
      obtain ⟨e1, e2, _⟩ := bx (by omega)
      cases hr
      rw [ans_8, ans_8, apaS_cons, apaS_nil]
      have := sm_D _ _ e2
      simp only
      omega
    · simp [rec] at hr
      have hn : n = 1 := by simp [kidN] at hk; omega
      obtain ⟨e1, e2, _⟩ := bx (by omega)
      split at hr
      · cases hr
        rw [ans_9, ans_9, apaS_cons, apaS_nil]
        have := pick_D _ _ lo.toNat e2
        simp only
        omega
      · cases hr
    · simp [rec] at hr
      have hn : n = 1 := by simp [kidN] at hk; omega
      obtain ⟨e1, e2, _⟩ := bx (by omega)
      split at hr
      · rename_i hw
        cases hr
        rw [ans_10, ans_10]
        have := map_D (inT lo hi) 1 (fun a a' => by
          simp only [wrtB, decide_eq_true_eq] at hw
          unfold inT
          repeat' split
          all_goals omega) _ _ e2
        simp only
        omega
      · cases hr
end Go.Proofs.YtlndlpjadajelaaGreat.K

namespace Go.Proofs.YtlndlpjadajelaaGreat.K
open Go.RowKit Go.Proofs.YtlndlpjadajelaaGreat.K.Ds

/-- where a slice lies, if it lies anywhere -/
def Adr (P : Nat → Prop) (v : Value) : Prop := ∀ b o n c, v = .slice (some ⟨b, o, none⟩) n c → P b
theorem adr_nil (P : Nat → Prop) {n c : Nat} : Adr P (.slice none n c) := fun b o n c e => by simp at e
theorem Adr.imp {P P' : Nat → Prop} {v : Value} (h : Adr P v) (k : ∀ b, P b → P' b) : Adr P' v := fun b o n c e => k b (h b o n c e)
theorem adr_at {P : Nat → Prop} {b o n c : Nat} (h : P b) : Adr P (.slice (some ⟨b, o, none⟩) n c) := fun b' o' n' c' e => by
  simp only [Value.slice.injEq, Option.some.injEq, Addr.mk.injEq] at e
  rw [← e.1.1]; exact h
theorem Ints.gb {w w' : World} {B nb : Nat} {v : Value} {xs : List Int} {row : Option Nat} (h : Ints w B nb v xs) (hg : w.grownBy w' row) (ha : Adr (fun b => row ≠ some b) v) : Ints w' B nb v xs := by
  obtain ⟨a, c, hv, hc, hl, hx⟩ := h
  refine ⟨a, c, hv, hc, hl, fun hne => ?_⟩
  obtain ⟨b, o, e, hb, hn, hcell⟩ := hx hne
  refine ⟨b, o, e, hb, hn, fun i x hi => hg.cell (hcell i x hi) fun e2 => ?_⟩
  exact ha b o _ _ (by rw [hv, e]) e2.symm
theorem Cols.gb {w w' : World} {B : Nat} {v : Value} {l : List Col} {row : Option Nat} (h : Cols w B v l) (hg : w.grownBy w' row) (ha : Adr (fun b => row ≠ some b) v) : Cols w' B v l := by
  obtain ⟨a, c, hv, hc, hl, hn, hx⟩ := h
  refine ⟨a, c, hv, hc, hl, hn, fun hne => ?_⟩
  obtain ⟨b, o, e, hb, hcell⟩ := hx hne
  have hne2 : row ≠ some b := ha b o _ _ (by rw [hv, e])
  exact ⟨b, o, e, hb, fun i x hi => ⟨hg.cell (hcell i x hi).1 (fun e2 => hne2 e2.symm), hg.cell (hcell i x hi).2 (fun e2 => hne2 e2.symm)⟩⟩
/-- where rows lie -/
def AdrR (P : Nat → Prop) (v : Value) (ts : List Rw) : Prop := Adr P v ∧ ∀ t ∈ ts, Adr P t.1
theorem AdrR.imp {P P' : Nat → Prop} {v : Value} {ts : List Rw} (h : AdrR P v ts) (k : ∀ b, P b → P' b) : AdrR P' v ts := ⟨h.1.imp k, fun t ht => (h.2 t ht).imp k⟩
theorem Rws.gb {w w' : World} {B : Nat} {v : Value} {ts : List Rw} {row : Option Nat} (h : Rws w B v ts) (hg : w.grownBy w' row) (ha : AdrR (fun b => row ≠ some b) v ts) : Rws w' B v ts := by
  obtain ⟨a, c, hv, hc, hl, hi, hx⟩ := h
  refine ⟨a, c, hv, hc, hl, fun t ht => (hi t ht).gb hg (ha.2 t ht), fun hne => ?_⟩
  obtain ⟨b, o, e, hb, hcell⟩ := hx hne
  have hne2 : row ≠ some b := ha.1 b o _ _ (by rw [hv, e])
  exact ⟨b, o, e, hb, fun i t ht => hg.cell (hcell i t ht) (fun e2 => hne2 e2.symm)⟩
theorem Rwr.adr {w : World} {lo : Nat} {v : Value} {ts : List Rw} (h : Rwr w lo v ts) (hs : Som lo ts) : AdrR (fun b => lo ≤ b) v ts :=
  ⟨fun b o n c e => owns_block h.1 b (by rw [e]; obtain ⟨g, c', e', _⟩ := owns_some h.1 (by rw [e]; simp); rw [e] at e'; simp at e'; rw [e'.1.2]; rfl), fun t ht => by
    obtain ⟨b, o, n, c, e, hb⟩ := hs t ht
    rw [e]; exact adr_at hb⟩

end Go.Proofs.YtlndlpjadajelaaGreat.K

namespace Go.Proofs.YtlndlpjadajelaaGreat.K
open Go.ChangeShapes Go.WideShapes Go.ChangeAt Go.RowKit Go.Proofs.YtlndlpjadajelaaGreat.K.Ds Go.Deep

theorem cell_lt {w : World} {a : Addr} {v : Value} (h : w.cell? a = some v) : a.block < w.heap.size := by
  unfold World.cell? at h
  split at h
  · rename_i hb; exact (Array.getElem?_eq_some_iff.1 hb).1
  · cases h
theorem cells3 : Tryz.prog.cellsOf 3 = 1 := by kernel_rfl
theorem cells9 : Tryz.prog.cellsOf 9 = 1 := by kernel_rfl
theorem cells26 : Tryz.prog.cellsOf 65 = 1 := by kernel_rfl
theorem cells47 : Tryz.prog.cellsOf 74 = 2 := by kernel_rfl
theorem cells25 : Tryz.prog.cellsOf 27 = 2 := by kernel_rfl
theorem maxLen_eq : maxLen = 9223372036854775807 := by decide

/-- a list of numbers that came in -/
theorem ints_of_trod {H : Type} {enc : TypeId × Value → H} {W : World} {n : Nat} {V : Value} {D : DataW H} {P : List MemPlace} (h : DataW.trod enc Tryz.prog W 0 (fun _ => true) true n 65 [V] = some (D, P)) :
    ∃ xs, Ints W W.heap.size W.heap.size V xs := by
  rcases open_ints Tryz.underlying65 Tryz.underlying3 cells3 h with ⟨hcs, _⟩ | ⟨a, len, cap, zs, hcs, _, hl, hmx, hz, hx, hcell, hwz⟩
  · simp at hcs
    subst hcs
    exact ⟨[], none, 0, rfl, Nat.le_refl _, by simp, fun h => absurd rfl h⟩
  · simp at hcs
    subst hcs
    simp only [if_true] at hz
    have hlen : (zs.take len).length = len := by simp; omega
    rw [maxLen_eq] at hmx
    refine ⟨zs.take len, some a, cap, by rw [hlen], by omega, by omega, fun hne => ?_⟩
    have hpos : 0 < len := by
      rcases Nat.eq_zero_or_pos len with h0 | h0
      · subst h0; simp at hne
      · exact h0
    obtain ⟨b, o, spot⟩ := a
    have h0 := hcell 0 (by omega)
    have hs : spot = none := by simpa [Addr.add] using World.cell?_spot h0
    subst hs
    have hlt : b < W.heap.size := cell_lt (a := (⟨b, o, none⟩ : Addr).add 0) h0
    refine ⟨b, o, rfl, hlt, by omega, fun i x hi => ?_⟩
    have hi2 : i < len := by rw [← hlen]; exact (List.getElem?_eq_some_iff.1 hi).1
    have h1 := hcell i (by omega)
    rw [Addr.add_lit] at h1
    rw [h1]
    rw [List.getElem?_take_of_lt hi2] at hi
    simp [List.getD, hi]

/-- rows that came in -/
theorem rows_of_trod {H : Type} {enc : TypeId × Value → H} {W : World} {n : Nat} {V : Value} {D : DataW H} {P : List MemPlace} (h : DataW.trod enc Tryz.prog W 0 (fun _ => true) true n 25 [V] = some (D, P)) :
    ∃ ts : List Rw, Rws W W.heap.size V ts := by
  rcases open_slice1 Tryz.underlying25 cells26 h with ⟨hcs, _⟩ | ⟨a, len, cap, m, n', V0, D0, P0, hcs, _, hl, hmx, hm, hx, hall⟩
  · simp at hcs
    subst hcs
    exact ⟨[], rws_nil _ _⟩
  · simp at hcs
    subst hcs
    simp only [if_true] at hm
    subst hm
    rw [maxLen_eq] at hmx
    have each : ∀ i, i < len → ∃ q : List Int, Ints W W.heap.size W.heap.size (V0 i) q := fun i hi => ints_of_trod (hall i (by omega)).2
    obtain ⟨q, hq⟩ := choose_lt each
    have hget : ∀ i t, ((List.range len).map fun i => ((V0 i, q i) : Rw))[i]? = some t → i < len ∧ t = (V0 i, q i) := by
      intro i t hi
      have hlt := (List.getElem?_eq_some_iff.1 hi).1
      simp at hlt
      simp [hlt] at hi
      exact ⟨hlt, hi.symm⟩
    refine ⟨(List.range len).map fun i => (V0 i, q i), some a, m, by simp, by simp; omega, by simp; omega, fun t ht => ?_, fun hne => ?_⟩
    · obtain ⟨i, hi, rfl⟩ := List.mem_map.1 ht
      exact hq i (List.mem_range.1 hi)
    · have hpos : 0 < len := by
        rcases Nat.eq_zero_or_pos len with h0 | h0
        · subst h0; simp at hne
        · exact h0
      obtain ⟨b, o, spot⟩ := a
      have h0 := (hall 0 (by omega)).1
      have hs : spot = none := by simpa [Addr.add] using World.cell?_spot h0
      subst hs
      have hlt : b < W.heap.size := cell_lt (a := (⟨b, o, none⟩ : Addr).add 0) h0
      refine ⟨b, o, rfl, hlt, fun i t hi => ?_⟩
      obtain ⟨hi2, rfl⟩ := hget i t hi
      obtain ⟨h1, _⟩ := hall i (by omega)
      rw [Addr.add_lit] at h1
      exact h1

theorem field47 : ∃ f0 f1 : Field, Tryz.prog.underlying 74 = some (.struct #[f0, f1]) ∧ f0.offset = 0 ∧ f1.offset = 1 ∧ f0.type = 9 ∧ f1.type = 3 := by
  refine ⟨_, _, Tryz.underlying74, ?_, ?_, ?_, ?_⟩ <;> rfl

/-- columns that came in -/
theorem cols_of_trod {H : Type} {enc : TypeId × Value → H} {W : World} {n : Nat} {V : Value} {D : DataW H} {P : List MemPlace} (h : DataW.trod enc Tryz.prog W 0 (fun _ => true) true n 24 [V] = some (D, P)) :
    ∃ l : List Col, Cols W W.heap.size V l := by
  obtain ⟨f0, f1, hu, o0, o1, t0, t1⟩ := field47
  rcases open_slice_pairs Tryz.underlying24 hu cells47 o0 o1 (by rw [t0]; exact cells9) (by rw [t1]; exact cells3) h with ⟨hcs, _⟩ | ⟨a, len, cap, m, n', V0, V1, D0, D1, P0, P1, hcs, _, hl, hmx, hm, hx, hall⟩
  · simp at hcs
    subst hcs
    exact ⟨[], cols_nil _ _⟩
  · simp at hcs
    subst hcs
    simp only [if_true] at hm
    subst hm
    rw [maxLen_eq] at hmx
    have each : ∀ i, i < len → ∃ q : Col, (V0 i = .string q.1 ∧ V1 i = .int .i64 q.2) ∧ q.1.size ≤ 9223372036854775807 := by
      intro i hi
      obtain ⟨_, _, h3, h4⟩ := hall i (by omega)
      rw [t0] at h3
      rw [t1] at h4
      obtain ⟨s, e0, _, hw⟩ := DataW.trod_string Tryz.underlying9 h3
      obtain ⟨k, e1, _, _⟩ := DataW.trod_int Tryz.underlying3 h4
      simp at e0 e1
      exact ⟨(s, k), ⟨e0, e1⟩, by rw [← maxLen_eq]; exact hw⟩
    obtain ⟨q, hq⟩ := choose_lt each
    have hget : ∀ i t, ((List.range len).map fun i => q i)[i]? = some t → i < len ∧ t = q i := by
      intro i t hi
      have hlt := (List.getElem?_eq_some_iff.1 hi).1
      simp at hlt
      simp [hlt] at hi
      exact ⟨hlt, hi.symm⟩
    refine ⟨(List.range len).map fun i => q i, some a, m, by simp, by simp; omega, by simp; omega, fun t ht => ?_, fun hne => ?_⟩
    · obtain ⟨i, hi, rfl⟩ := List.mem_map.1 ht
      exact (hq i (List.mem_range.1 hi)).2
    · have hpos : 0 < len := by
        rcases Nat.eq_zero_or_pos len with h0 | h0
        · subst h0; simp at hne
        · exact h0
      obtain ⟨b, o, spot⟩ := a
      have h0 := (hall 0 (by omega)).1
      have hs : spot = none := by simpa [Addr.add] using World.cell?_spot h0
      subst hs
      have hlt : b < W.heap.size := cell_lt (a := (⟨b, o, none⟩ : Addr).add (0 * 2)) h0
      refine ⟨b, o, rfl, hlt, fun i t hi => ?_⟩
      obtain ⟨hi2, rfl⟩ := hget i t hi
      obtain ⟨h1, h2, _⟩ := hall i (by omega)
      rw [Addr.add_lit] at h1 h2
      exact ⟨by rw [h1, (hq i hi2).1.1], by rw [Nat.add_assoc, h2, (hq i hi2).1.2]⟩
end Go.Proofs.YtlndlpjadajelaaGreat.K
