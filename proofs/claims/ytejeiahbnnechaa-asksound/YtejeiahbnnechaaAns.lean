import Derived.Test.YtejeiahbnnechaaPas
import Derived.Test.YtejeiahbnnechaaRca
namespace Go.Proofs.Ytejeiahbnnechaa
open Go.RowKit Go.Proofs.Ytejeiahbnnechaa.Ds

/-- a row passes -/
def pasB (ps : List (Nat × Int × Int)) (r : List Int) : Bool := ps.all fun e => tstB e.2.1 e.2.2 (r.getD e.1 0)
/-- brought into lo .. hi -/
def inT (lo hi v : Int) : Int := if v < lo then lo else if hi < v then hi else v
def addAt (out : List Int) (p : Nat × Int) : List Int := out.set p.1 (out.getD p.1 0 + p.2)
def gst (ps : List (Nat × Int × Int)) (f : List Int → Nat × Int) (out r : List Int) : List Int := if pasB ps r then addAt out (f r) else out
def gat (n : Nat) (ps : List (Nat × Int × Int)) (f : List Int → Nat × Int) (rs : List (List Int)) : List Int := rs.foldl (gst ps f) (List.replicate n 0)
/-- which place, and how much -/
def stp (k : Int) (at' : Nat) (lo hi : Int) (r : List Int) : Nat × Int := if k = 1 then (0, 1) else if k = 2 then (0, inT lo hi (r.getD at' 0)) else ((r.getD at' 0).toNat, 1)
def smL : List Int → Int
  | [] => 0
  | a :: l => a + smL l
def plN (l : List Col) (k : Int) (at' : Nat) : Nat := if k = 3 then (szC l at').toNat else 1
/-- what a question is answered -/
def ans (l : List Col) (rs : List (List Int)) : Qu → List Int
  | .none => []
  | .node k c lo hi wh _ x y =>
    if k = 1 ∨ k = 2 ∨ k = 3 then gat (plN l k ((fnd l c).getD 0)) (wh.map (trp l)) (stp k ((fnd l c).getD 0) lo hi) rs
    else if k = 4 then List.zipWith (· + ·) (ans l rs x) (ans l rs y)
    else if k = 5 then List.zipWith (· - ·) (ans l rs x) (ans l rs y)
    else if k = 6 then (ans l rs x).map (lo * ·)
    else if k = 7 then ans l rs x ++ ans l rs y
    else if k = 8 then [smL (ans l rs x)]
    else if k = 9 then [(ans l rs x).getD lo.toNat 0]
    else (ans l rs x).map (inT lo hi)

section
variable (l : List Col) (rs : List (List Int)) (c : ByteArray) (lo hi : Int) (wh : List Tst) (n : Nat) (x y : Qu)
theorem ans_leaf {k : Int} (h : k = 1 ∨ k = 2 ∨ k = 3) : ans l rs (.node k c lo hi wh n x y) = gat (plN l k ((fnd l c).getD 0)) (wh.map (trp l)) (stp k ((fnd l c).getD 0) lo hi) rs := by
  simp only [ans]; rw [if_pos h]
theorem ans_4 : ans l rs (.node 4 c lo hi wh n x y) = List.zipWith (· + ·) (ans l rs x) (ans l rs y) := by simp [ans]
theorem ans_5 : ans l rs (.node 5 c lo hi wh n x y) = List.zipWith (· - ·) (ans l rs x) (ans l rs y) := by simp [ans]
theorem ans_6 : ans l rs (.node 6 c lo hi wh n x y) = (ans l rs x).map (lo * ·) := by simp [ans]
theorem ans_7 : ans l rs (.node 7 c lo hi wh n x y) = ans l rs x ++ ans l rs y := by simp [ans]
theorem ans_8 : ans l rs (.node 8 c lo hi wh n x y) = [smL (ans l rs x)] := by simp [ans]
theorem ans_9 : ans l rs (.node 9 c lo hi wh n x y) = [(ans l rs x).getD lo.toNat 0] := by simp [ans]
theorem ans_10 : ans l rs (.node 10 c lo hi wh n x y) = (ans l rs x).map (inT lo hi) := by simp [ans]
end
theorem gst_len (ps : List (Nat × Int × Int)) (f : List Int → Nat × Int) (out r : List Int) : (gst ps f out r).length = out.length := by
  unfold gst addAt; split <;> simp
theorem fold_len (ps : List (Nat × Int × Int)) (f : List Int → Nat × Int) (rs : List (List Int)) (out : List Int) : (rs.foldl (gst ps f) out).length = out.length := by
  induction rs generalizing out with
  | nil => rfl
  | cons r rs ih => rw [List.foldl_cons, ih, gst_len]
theorem gat_len (n : Nat) (ps : List (Nat × Int × Int)) (f : List Int → Nat × Int) (rs : List (List Int)) : (gat n ps f rs).length = n := by
  rw [gat, fold_len]; simp
/-- all are at most M from 0 -/
def Bdd (M : Int) (xs : List Int) : Prop := ∀ z ∈ xs, -M ≤ z ∧ z ≤ M
theorem Bdd.mono {M N : Int} {xs : List Int} (h : Bdd M xs) (hN : M ≤ N) : Bdd N xs := fun z hz => by have := h z hz; omega
theorem Bdd.getD {M : Int} {xs : List Int} (h : Bdd M xs) (hM : 0 ≤ M) (i : Nat) : -M ≤ xs.getD i 0 ∧ xs.getD i 0 ≤ M := by
  rw [List.getD]
  cases hi : xs[i]? with
  | none => simp; omega
  | some x => exact h x (List.mem_of_getElem? hi)
theorem gst_bd {ps : List (Nat × Int × Int)} {f : List Int → Nat × Int} {out r : List Int} {M N : Int} (h : Bdd N out) (hN : 0 ≤ N) (hM : 0 ≤ M) (hf : -M ≤ (f r).2 ∧ (f r).2 ≤ M) : Bdd (N + M) (gst ps f out r) := by
  unfold gst
  split
  · intro z hz
    unfold addAt at hz
    rcases List.mem_or_eq_of_mem_set hz with hz | rfl
    · have := h z hz; omega
    · have := h.getD hN (f r).1; omega
  · exact h.mono (by omega)
theorem fold_bd {ps : List (Nat × Int × Int)} {f : List Int → Nat × Int} {M : Int} (hM : 0 ≤ M) (rs : List (List Int)) (hf : ∀ r ∈ rs, -M ≤ (f r).2 ∧ (f r).2 ≤ M) : ∀ (N : Int) (out : List Int), 0 ≤ N → Bdd N out → Bdd (N + rs.length * M) (rs.foldl (gst ps f) out) := by
  induction rs with
  | nil => intro N out _ h; simpa using h
  | cons r rs ih =>
    intro N out hN h
    rw [List.foldl_cons]
    have := ih (fun r' h' => hf r' (List.mem_cons_of_mem _ h')) (N + M) (gst ps f out r) (by omega) (gst_bd h hN hM (hf r (List.mem_cons_self ..)))
    refine this.mono ?_
    rw [List.length_cons, Int.natCast_add, Int.add_mul]
    omega
theorem gat_bd {n : Nat} {ps : List (Nat × Int × Int)} {f : List Int → Nat × Int} {M : Int} (hM : 0 ≤ M) {rs : List (List Int)} (hf : ∀ r ∈ rs, -M ≤ (f r).2 ∧ (f r).2 ≤ M) (hl : rs.length ≤ 4096) : Bdd (4096 * M) (gat n ps f rs) := by
  have h0 : Bdd 0 (List.replicate n (0 : Int)) := fun z hz => by have := (List.mem_replicate.1 hz).2; omega
  refine (fold_bd hM rs hf 0 _ (Int.le_refl _) h0).mono ?_
  have := Int.mul_le_mul_of_nonneg_right (show ((rs.length : Int)) ≤ 4096 by omega) hM
  omega
theorem inT_bd {lo hi v : Int} (h : wrtB lo hi = true) : -spn lo hi ≤ inT lo hi v ∧ inT lo hi v ≤ spn lo hi := by
  simp only [wrtB, decide_eq_true_eq] at h
  unfold inT spn
  repeat' split
  all_goals omega
theorem smL_bd {M : Int} {xs : List Int} (h : Bdd M xs) : -(xs.length * M) ≤ smL xs ∧ smL xs ≤ xs.length * M := by
  induction xs with
  | nil => simp [smL]
  | cons a xs ih =>
    have h1 := ih fun z hz => h z (List.mem_cons_of_mem _ hz)
    have h2 := h a (List.mem_cons_self ..)
    simp only [smL, List.length_cons]
    rw [Int.natCast_add, Int.add_mul]
    omega
theorem mul_abs {a b M N : Int} (h1 : -M ≤ a ∧ a ≤ M) (h2 : -N ≤ b ∧ b ≤ N) : -(M * N) ≤ a * b ∧ a * b ≤ M * N := by
  have hM : 0 ≤ M := by omega
  have hN : 0 ≤ N := by omega
  have ha : (a.natAbs : Int) ≤ M := by omega
  have hb : (b.natAbs : Int) ≤ N := by omega
  have h3 : ((a * b).natAbs : Int) ≤ M * N := by
    rw [Int.natAbs_mul, Int.natCast_mul]
    exact Int.mul_le_mul ha hb (by omega) hM
  omega
theorem zipB_bd {M N : Int} (f : Int → Int → Int) (hf : ∀ a b, -M ≤ a ∧ a ≤ M → -N ≤ b ∧ b ≤ N → -(M + N) ≤ f a b ∧ f a b ≤ M + N) {xs ys : List Int} (hx : Bdd M xs) (hy : Bdd N ys) : Bdd (M + N) (List.zipWith f xs ys) := by
  induction xs generalizing ys with
  | nil => intro z hz; simp at hz
  | cons a xs ih =>
    cases ys with
    | nil => intro z hz; simp at hz
    | cons b ys =>
      intro z hz
      rw [List.zipWith_cons_cons] at hz
      rcases List.mem_cons.1 hz with rfl | hz
      · exact hf a b (hx a (List.mem_cons_self ..)) (hy b (List.mem_cons_self ..))
      · exact ih (fun z hz => hx z (List.mem_cons_of_mem _ hz)) (fun z hz => hy z (List.mem_cons_of_mem _ hz)) z hz

theorem lim_inv {l : List Col} {lv : Nat} {k : Int} {c : ByteArray} {lo hi : Int} {wh : List Tst} {n : Nat} {x y : Qu} {b : Bnd} (h : bnd l lv (.node k c lo hi wh n x y) = .ok b) :
    (n : Int) = kidN k ∧ ∃ bx b', ifK (1 ≤ n) (bnd l (lv + 1) x) = .ok bx ∧ ifK (2 ≤ n) (bnd l (lv + 1) y) = .ok b' ∧ rec l k c lo hi wh bx b' = .ok b ∧ limB b = true := by
  simp only [bnd] at h
  split at h
  · cases h
  · split at h
    · cases h
    · split at h
      · rename_i hk
        split at h
        · cases h
        · rename_i bx hbx
          split at h
          · cases h
          · rename_i b' hby
            split at h
            · cases h
            · rename_i b0 hr
              obtain ⟨rfl, hl⟩ := lim_ok h
              exact ⟨hk, bx, b', hbx, hby, hr, hl⟩
      · cases h
theorem ifW_ok {e : Int} {b b' : Bnd} (h : ifW e b = .ok b') : e = 0 ∧ b = b' := by
  unfold ifW at h
  split at h
  · cases h; exact ⟨by assumption, rfl⟩
  · cases h

/-- TYPES ARE SOUND -/
theorem ans_ok {l : List Col} (hs : Szs l) {rs : List (List Int)} (hl : rs.length ≤ 4096) (q : Qu) : ∀ (lv : Nat) (b : Bnd), bnd l lv q = .ok b → q ≠ .none → ((ans l rs q).length : Int) = b.1 ∧ Bdd b.2.2 (ans l rs q) := by
  induction q with
  | none => intro lv b _ h; exact absurd rfl h
  | node k c lo hi wh n x y ihx ihy =>
    intro lv b h _
    obtain ⟨hk, ⟨x1, x2, x3⟩, ⟨y1, y2, y3⟩, hbx, hby, hr, hlim⟩ := lim_inv h
    have kx : 1 ≤ n → x ≠ .none → ((ans l rs x).length : Int) = x1 ∧ Bdd x3 (ans l rs x) := fun hn hx => by
      rw [ifK, if_pos hn] at hbx; exact ihx _ _ hbx hx
    have ky : 2 ≤ n → y ≠ .none → ((ans l rs y).length : Int) = y1 ∧ Bdd y3 (ans l rs y) := fun hn hy => by
      rw [ifK, if_pos hn] at hby; exact ihy _ _ hby hy
    have zx : 1 ≤ n → x = .none → (x1, x2, x3) = ((0, 0, 0) : Bnd) := fun hn hx => by
      rw [ifK, if_pos hn, hx] at hbx; simp only [bnd] at hbx; cases hbx; rfl
    have zy : 2 ≤ n → y = .none → (y1, y2, y3) = ((0, 0, 0) : Bnd) := fun hn hy => by
      rw [ifK, if_pos hn, hy] at hby; simp only [bnd] at hby; cases hby; rfl
    have bx : 1 ≤ n → ((ans l rs x).length : Int) = x1 ∧ Bdd x3 (ans l rs x) := fun hn => by
      by_cases hx : x = .none
      · have := zx hn hx; simp only [Prod.mk.injEq] at this; obtain ⟨rfl, rfl, rfl⟩ := this; rw [hx]; exact ⟨by simp [ans], fun z hz => by simp [ans] at hz⟩
      · exact kx hn hx
    have b_y : 2 ≤ n → ((ans l rs y).length : Int) = y1 ∧ Bdd y3 (ans l rs y) := fun hn => by
      by_cases hy : y = .none
      · have := zy hn hy; simp only [Prod.mk.injEq] at this; obtain ⟨rfl, rfl, rfl⟩ := this; rw [hy]; exact ⟨by simp [ans], fun z hz => by simp [ans] at hz⟩
      · exact ky hn hy
    clear kx ky zx zy hbx hby ihx ihy
    have hkc : ¬ kidN k < 0 := by omega
    rcases kidN_cases hkc with rfl | rfl | rfl | rfl | rfl | rfl | rfl | rfl | rfl | rfl
    · simp [rec] at hr
      obtain ⟨_, rfl⟩ := ifW_ok hr
      rw [ans_leaf _ _ _ _ _ _ _ _ _ (by simp)]
      exact ⟨by rw [gat_len]; simp [plN], gat_bd (M := 1) (by decide) (fun r _ => by simp [stp]) hl⟩
    · simp [rec] at hr
      split at hr
      · split at hr
        · rename_i hw
          obtain ⟨_, rfl⟩ := ifW_ok hr
          rw [ans_leaf _ _ _ _ _ _ _ _ _ (by simp)]
          exact ⟨by rw [gat_len]; simp [plN], gat_bd (spn_bd hw).1 (fun r _ => by simpa [stp] using inT_bd hw) hl⟩
        · cases hr
      · cases hr
    · simp [rec] at hr
      split at hr
      · rename_i i hf
        obtain ⟨_, rfl⟩ := ifW_ok hr
        rw [ans_leaf _ _ _ _ _ _ _ _ _ (by simp)]
        have := szC_bd hs hf
        exact ⟨by rw [gat_len, hf]; simp [plN]; omega, gat_bd (M := 1) (by decide) (fun r _ => by simp [stp]) hl⟩
      · cases hr
    · simp [rec] at hr
      have hn : n = 2 := by simp [kidN] at hk; omega
      obtain ⟨e1, e2⟩ := bx (by omega)
      obtain ⟨e3, e4⟩ := b_y (by omega)
      split at hr
      · cases hr
        rw [ans_4]
        exact ⟨by simp; omega, zipB_bd _ (fun a b h1 h2 => by omega) e2 e4⟩
      · cases hr
    · simp [rec] at hr
      have hn : n = 2 := by simp [kidN] at hk; omega
      obtain ⟨e1, e2⟩ := bx (by omega)
      obtain ⟨e3, e4⟩ := b_y (by omega)
      split at hr
      · cases hr
        rw [ans_5]
        exact ⟨by simp; omega, zipB_bd _ (fun a b h1 h2 => by omega) e2 e4⟩
      · cases hr
    · simp [rec] at hr
      have hn : n = 1 := by simp [kidN] at hk; omega
      obtain ⟨e1, e2⟩ := bx (by omega)
      split at hr
      · rename_i hw
        cases hr
        rw [ans_6]
        refine ⟨by simpa using e1, fun z hz => ?_⟩
        obtain ⟨a, ha, rfl⟩ := List.mem_map.1 hz
        refine mul_abs ?_ (e2 a ha)
        simp only [wrtB, decide_eq_true_eq] at hw
        unfold spn
        split <;> omega
      · cases hr
    · simp [rec] at hr
      have hn : n = 2 := by simp [kidN] at hk; omega
      obtain ⟨e1, e2⟩ := bx (by omega)
      obtain ⟨e3, e4⟩ := b_y (by omega)
      cases hr
      rw [ans_7]
      refine ⟨by simp; omega, fun z hz => ?_⟩
      show -(mx x3 y3) ≤ z ∧ z ≤ mx x3 y3
      unfold mx
      rcases List.mem_append.1 hz with hz | hz
      · have := e2 z hz; split <;> omega
      · have := e4 z hz; split <;> omega
    · simp [rec] at hr
      have hn : n = 1 := by simp [kidN] at hk; omega
      obtain ⟨e1, e2⟩ := bx (by omega)
      cases hr
      rw [ans_8]
      refine ⟨by simp, fun z hz => ?_⟩
      obtain rfl := List.mem_singleton.1 hz
      have := smL_bd e2
      rw [e1] at this
      exact this
    · simp [rec] at hr
      have hn : n = 1 := by simp [kidN] at hk; omega
      obtain ⟨e1, e2⟩ := bx (by omega)
      split at hr
      · rename_i hlo
        cases hr
        rw [ans_9]
        refine ⟨by simp, fun z hz => ?_⟩
        obtain rfl := List.mem_singleton.1 hz
        have hlt : lo.toNat < (ans l rs x).length := by omega
        rw [List.getD, List.getElem?_eq_getElem hlt]
        exact e2 _ (List.getElem_mem hlt)
      · cases hr
    · simp [rec] at hr
      have hn : n = 1 := by simp [kidN] at hk; omega
      obtain ⟨e1, e2⟩ := bx (by omega)
      split at hr
      · rename_i hw
        cases hr
        rw [ans_10]
        refine ⟨by simpa using e1, fun z hz => ?_⟩
        obtain ⟨a, ha, rfl⟩ := List.mem_map.1 hz
        exact inT_bd hw
      · cases hr
end Go.Proofs.Ytejeiahbnnechaa
