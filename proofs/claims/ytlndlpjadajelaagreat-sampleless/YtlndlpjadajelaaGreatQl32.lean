import Derived.Test.YtlndlpjadajelaaGreatQl30
import Derived.Test.YtlndlpjadajelaaGreatQl31
import Derived.Deep.RegionHeld3
import Derived.Test.YtlndlpjadajelaaGreatQl27
import Derived.Laws.StructEq
namespace Go.Proofs.YtlndlpjadajelaaGreat.K
open Go.RowKit Go.Proofs.YtlndlpjadajelaaGreat.K.Ds

/-- a row passes -/
def pasB (ps : List (Nat × Int × Int)) (r : List Int) : Bool := ps.all fun e => tstB e.2.1 e.2.2 (r.getD e.1 0)
/-- brought into lo .. hi -/
def inT (lo hi v : Int) : Int := if v < lo then lo else if hi < v then hi else v
def addAt (out : List Int) (p : Nat × Int) : List Int := out.set p.1 (out.getD p.1 0 + p.2)
def gst (ps : List (Nat × Int × Int)) (f : List Int → Nat × Int) (out r : List Int) : List Int := if pasB ps r then addAt out (f r) else out
def gat (n : Nat) (ps : List (Nat × Int × Int)) (f : List Int → Nat × Int) (rs : List (List Int)) : List Int := rs.foldl (gst ps f) (List.replicate n 0)
/-- which place, and how much -/
def stp (k : Int) (at' : Nat) (lo hi : Int) (r : List Int) : Nat × Int := if k = 1 then (0, 1) else if k = 2 then (0, inT lo hi (r.getD at' 0)) else ((r.getD at' 0).toNat, 1)
def smL : List Int → Int
  | [] => 0
  | a :: l => a + smL l
def plN (l : List Col) (k : Int) (at' : Nat) : Nat := if k = 3 then (szC l at').toNat else 1
/-- what a question is answered -/
def ans (l : List Col) (rs : List (List Int)) : Qu → List Int
  | .none => []
  | .node k c lo hi wh _ x y =>
    if k = 1 ∨ k = 2 ∨ k = 3 then gat (plN l k ((fnd l c).getD 0)) (wh.map (trp l)) (stp k ((fnd l c).getD 0) lo hi) rs
    else if k = 4 then List.zipWith (· + ·) (ans l rs x) (ans l rs y)
    else if k = 5 then List.zipWith (· - ·) (ans l rs x) (ans l rs y)
    else if k = 6 then (ans l rs x).map (lo * ·)
    else if k = 7 then ans l rs x ++ ans l rs y
    else if k = 8 then [smL (ans l rs x)]
    else if k = 9 then [(ans l rs x).getD lo.toNat 0]
    else (ans l rs x).map (inT lo hi)

section
variable (l : List Col) (rs : List (List Int)) (c : ByteArray) (lo hi : Int) (wh : List Tst) (n : Nat) (x y : Qu)
theorem ans_leaf {k : Int} (h : k = 1 ∨ k = 2 ∨ k = 3) : ans l rs (.node k c lo hi wh n x y) = gat (plN l k ((fnd l c).getD 0)) (wh.map (trp l)) (stp k ((fnd l c).getD 0) lo hi) rs := by
  simp only [ans]; rw [if_pos h]
theorem ans_4 : ans l rs (.node 4 c lo hi wh n x y) = List.zipWith (· + ·) (ans l rs x) (ans l rs y) := by simp [ans]
theorem ans_5 : ans l rs (.node 5 c lo hi wh n x y) = List.zipWith (· - ·) (ans l rs x) (ans l rs y) := by simp [ans]
theorem ans_6 : ans l rs (.node 6 c lo hi wh n x y) = (ans l rs x).map (lo * ·) := by simp [ans]
theorem ans_7 : ans l rs (.node 7 c lo hi wh n x y) = ans l rs x ++ ans l rs y := by simp [ans]
theorem ans_8 : ans l rs (.node 8 c lo hi wh n x y) = [smL (ans l rs x)] := by simp [ans]
theorem ans_9 : ans l rs (.node 9 c lo hi wh n x y) = [(ans l rs x).getD lo.toNat 0] := by simp [ans]
theorem ans_10 : ans l rs (.node 10 c lo hi wh n x y) = (ans l rs x).map (inT lo hi) := by simp [ans]
end
theorem gst_len (ps : List (Nat × Int × Int)) (f : List Int → Nat × Int) (out r : List Int) : (gst ps f out r).length = out.length := by
  unfold gst addAt; split <;> simp
theorem fold_len (ps : List (Nat × Int × Int)) (f : List Int → Nat × Int) (rs : List (List Int)) (out : List Int) : (rs.foldl (gst ps f) out).length = out.length := by
  induction rs generalizing out with
  | nil => rfl
  | cons r rs ih => rw [List.foldl_cons, ih, gst_len]
theorem gat_len (n : Nat) (ps : List (Nat × Int × Int)) (f : List Int → Nat × Int) (rs : List (List Int)) : (gat n ps f rs).length = n := by
  rw [gat, fold_len]; simp
/-- all are at most M from 0 -/
def Bdd (M : Int) (xs : List Int) : Prop := ∀ z ∈ xs, -M ≤ z ∧ z ≤ M
theorem Bdd.mono {M N : Int} {xs : List Int} (h : Bdd M xs) (hN : M ≤ N) : Bdd N xs := fun z hz => by have := h z hz; omega
theorem Bdd.getD {M : Int} {xs : List Int} (h : Bdd M xs) (hM : 0 ≤ M) (i : Nat) : -M ≤ xs.getD i 0 ∧ xs.getD i 0 ≤ M := by
  rw [List.getD]
  cases hi : xs[i]? with
  | none => simp; omega
  | some x => exact h x (List.mem_of_getElem? hi)
theorem gst_bd {ps : List (Nat × Int × Int)} {f : List Int → Nat × Int} {out r : List Int} {M N : Int} (h : Bdd N out) (hN : 0 ≤ N) (hM : 0 ≤ M) (hf : -M ≤ (f r).2 ∧ (f r).2 ≤ M) : Bdd (N + M) (gst ps f out r) := by
  unfold gst
  split
  · intro z hz
    unfold addAt at hz
    rcases List.mem_or_eq_of_mem_set hz with hz | rfl
    · have := h z hz; omega
    · have := h.getD hN (f r).1; omega
  · exact h.mono (by omega)
theorem fold_bd {ps : List (Nat × Int × Int)} {f : List Int → Nat × Int} {M : Int} (hM : 0 ≤ M) (rs : List (List Int)) (hf : ∀ r ∈ rs, -M ≤ (f r).2 ∧ (f r).2 ≤ M) : ∀ (N : Int) (out : List Int), 0 ≤ N → Bdd N out → Bdd (N + rs.length * M) (rs.foldl (gst ps f) out) := by
  induction rs with
  | nil => intro N out _ h; simpa using h
  | cons r rs ih =>
    intro N out hN h
    rw [List.foldl_cons]
    have := ih (fun r' h' => hf r' (List.mem_cons_of_mem _ h')) (N + M) (gst ps f out r) (by omega) (gst_bd h hN hM (hf r (List.mem_cons_self ..)))
    refine this.mono ?_
    rw [List.length_cons, Int.natCast_add, Int.add_mul]
    omega
theorem gat_bd {n : Nat} {ps : List (Nat × Int × Int)} {f : List Int → Nat × Int} {M : Int} (hM : 0 ≤ M) {rs : List (List Int)} (hf : ∀ r ∈ rs, -M ≤ (f r).2 ∧ (f r).2 ≤ M) (hl : rs.length ≤ 4096) : Bdd (4096 * M) (gat n ps f rs) := by
  have h0 : Bdd 0 (List.replicate n (0 : Int)) := fun z hz => by have := (List.mem_replicate.1 hz).2; omega
  refine (fold_bd hM rs hf 0 _ (Int.le_refl _) h0).mono ?_
  have := Int.mul_le_mul_of_nonneg_right (show ((rs.length : Int)) ≤ 4096 by omega) hM
  omega
theorem inT_bd {lo hi v : Int} (h : wrtB lo hi = true) : -spn lo hi ≤ inT lo hi v ∧ inT lo hi v ≤ spn lo hi := by
  simp only [wrtB, decide_eq_true_eq] at h
  unfold inT spn
  repeat' split
  all_goals omega
theorem smL_bd {M : Int} {xs : List Int} (h : Bdd M xs) : -(xs.length * M) ≤ smL xs ∧ smL xs ≤ xs.length * M := by
  induction xs with
  | nil => simp [smL]
  | cons a xs ih =>
    have h1 := ih fun z hz => h z (List.mem_cons_of_mem _ hz)
    have h2 := h a (List.mem_cons_self ..)
    simp only [smL, List.length_cons]
    rw [Int.natCast_add, Int.add_mul]
    omega
theorem mul_abs {a b M N : Int} (h1 : -M ≤ a ∧ a ≤ M) (h2 : -N ≤ b ∧ b ≤ N) : -(M * N) ≤ a * b ∧ a * b ≤ M * N := by
  have hM : 0 ≤ M := by omega
  have hN : 0 ≤ N := by omega
  have ha : (a.natAbs : Int) ≤ M := by omega
  have hb : (b.natAbs : Int) ≤ N := by omega
  have h3 : ((a * b).natAbs : Int) ≤ M * N := by
    rw [Int.natAbs_mul, Int.natCast_mul]
    exact Int.mul_le_mul ha hb (by omega) hM
  omega
theorem zipB_bd {M N : Int} (f : Int → Int → Int) (hf : ∀ a b, -M ≤ a ∧ a ≤ M → -N ≤ b ∧ b ≤ N → -(M + N) ≤ f a b ∧ f a b ≤ M + N) {xs ys : List Int} (hx : Bdd M xs) (hy : Bdd N ys) : Bdd (M + N) (List.zipWith f xs ys) := by
  induction xs generalizing ys with
  | nil => intro z hz; simp at hz
  | cons a xs ih =>
    cases ys with
    | nil => intro z hz; simp at hz
    | cons b ys =>
      intro z hz
      rw [List.zipWith_cons_cons] at hz
      rcases List.mem_cons.1 hz with rfl | hz
      · exact hf a b (hx a (List.mem_cons_self ..)) (hy b (List.mem_cons_self ..))
      · exact ih (fun z hz => hx z (List.mem_cons_of_mem _ hz)) (fun z hz => hy z (List.mem_cons_of_mem _ hz)) z hz

theorem lim_inv {l : List Col} {lv : Nat} {k : Int} {c : ByteArray} {lo hi : Int} {wh : List Tst} {n : Nat} {x y : Qu} {b : Bnd} (h : bnd l lv (.node k c lo hi wh n x y) = .ok b) :
    (n : Int) = kidN k ∧ ∃ bx b', ifK (1 ≤ n) (bnd l (lv + 1) x) = .ok bx ∧ ifK (2 ≤ n) (bnd l (lv + 1) y) = .ok b' ∧ rec l k c lo hi wh bx b' = .ok b ∧ limB b = true := by
  simp only [bnd] at h
  split at h
  · cases h
  · split at h
    · cases h
    · split at h
      · rename_i hk
        split at h
        · cases h
        · rename_i bx hbx
          split at h
          · cases h
          · rename_i b' hby
            split at h
            · cases h
            · rename_i b0 hr
              obtain ⟨rfl, hl⟩ := lim_ok h
              exact ⟨hk, bx, b', hbx, hby, hr, hl⟩
      · cases h
theorem ifW_ok {e : Int} {b b' : Bnd} (h : ifW e b = .ok b') : e = 0 ∧ b = b' := by
  unfold ifW at h
  split at h
  · cases h; exact ⟨by assumption, rfl⟩
  · cases h

/-- TYPES ARE SOUND -/
theorem ans_ok {l : List Col} (hs : Szs l) {rs : List (List Int)} (hl : rs.length ≤ 4096) (q : Qu) : ∀ (lv : Nat) (b : Bnd), bnd l lv q = .ok b → q ≠ .none → ((ans l rs q).length : Int) = b.1 ∧ Bdd b.2.2 (ans l rs q) := by
  induction q with
  | none => intro lv b _ h; exact absurd rfl h
  | node k c lo hi wh n x y ihx ihy =>
    intro lv b h _
    obtain ⟨hk, ⟨x1, x2, x3⟩, ⟨y1, y2, y3⟩, hbx, hby, hr, hlim⟩ := lim_inv h
    have kx : 1 ≤ n → x ≠ .none → ((ans l rs x).length : Int) = x1 ∧ Bdd x3 (ans l rs x) := fun hn hx => by
      rw [ifK, if_pos hn] at hbx; exact ihx _ _ hbx hx
    have ky : 2 ≤ n → y ≠ .none → ((ans l rs y).length : Int) = y1 ∧ Bdd y3 (ans l rs y) := fun hn hy => by
      rw [ifK, if_pos hn] at hby; exact ihy _ _ hby hy
    have zx : 1 ≤ n → x = .none → (x1, x2, x3) = ((0, 0, 0) : Bnd) := fun hn hx => by
      rw [ifK, if_pos hn, hx] at hbx; simp only [bnd] at hbx; cases hbx; rfl
    have zy : 2 ≤ n → y = .none → (y1, y2, y3) = ((0, 0, 0) : Bnd) := fun hn hy => by
      rw [ifK, if_pos hn, hy] at hby; simp only [bnd] at hby; cases hby; rfl
    have bx : 1 ≤ n → ((ans l rs x).length : Int) = x1 ∧ Bdd x3 (ans l rs x) := fun hn => by
      by_cases hx : x = .none
      · have := zx hn hx; simp only [Prod.mk.injEq] at this; obtain ⟨rfl, rfl, rfl⟩ := this; rw [hx]; exact ⟨by simp [ans], fun z hz => by simp [ans] at hz⟩
      · exact kx hn hx
    have b_y : 2 ≤ n → ((ans l rs y).length : Int) = y1 ∧ Bdd y3 (ans l rs y) := fun hn => by
      by_cases hy : y = .none
      · have := zy hn hy; simp only [Prod.mk.injEq] at this; obtain ⟨rfl, rfl, rfl⟩ := this; rw [hy]; exact ⟨by simp [ans], fun z hz => by simp [ans] at hz⟩
      · exact ky hn hy
    clear kx ky zx zy hbx hby ihx ihy
    have hkc : ¬ kidN k < 0 := by omega
    rcases kidN_cases hkc with rfl | rfl | rfl | rfl | rfl | rfl | rfl | rfl | rfl | rfl
    · simp [rec] at hr
      obtain ⟨_, rfl⟩ := ifW_ok hr
      rw [ans_leaf _ _ _ _ _ _ _ _ _ (by simp)]
      exact ⟨by rw [gat_len]; simp [plN], gat_bd (M := 1) (by decide) (fun r _ => by simp [stp]) hl⟩
    · simp [rec] at hr
      split at hr
      · split at hr
        · rename_i hw
          obtain ⟨_, rfl⟩ := ifW_ok hr
          rw [ans_leaf _ _ _ _ _ _ _ _ _ (by simp)]
          exact ⟨by rw [gat_len]; simp [plN], gat_bd (spn_bd hw).1 (fun r _ => by simpa [stp] using inT_bd hw) hl⟩
        · cases hr
      · cases hr
    · simp [rec] at hr
      split at hr
      · rename_i i hf
        obtain ⟨_, rfl⟩ := ifW_ok hr
        rw [ans_leaf _ _ _ _ _ _ _ _ _ (by simp)]
        have := szC_bd hs hf
        exact ⟨by rw [gat_len, hf]; simp [plN]; omega, gat_bd (M := 1) (by decide) (fun r _ => by simp [stp]) hl⟩
      · cases hr
    · simp [rec] at hr
      have hn : n = 2 := by simp [kidN] at hk; omega
      obtain ⟨e1, e2⟩ := bx (by omega)
      obtain ⟨e3, e4⟩ := b_y (by omega)
      split at hr
      · cases hr
        rw [ans_4]
        exact ⟨by simp; omega, zipB_bd _ (fun a b h1 h2 => by omega) e2 e4⟩
      · cases hr
    · simp [rec] at hr
      have hn : n = 2 := by simp [kidN] at hk; omega
      obtain ⟨e1, e2⟩ := bx (by omega)
      obtain ⟨e3, e4⟩ := b_y (by omega)
      split at hr
      · cases hr
        rw [ans_5]
        exact ⟨by simp; omega, zipB_bd _ (fun a b h1 h2 => by omega) e2 e4⟩
      · cases hr
    · simp [rec] at hr
      have hn : n = 1 := by simp [kidN] at hk; omega
      obtain ⟨e1, e2⟩ := bx (by omega)
      split at hr
      · rename_i hw
        cases hr
        rw [ans_6]
        refine ⟨by simpa using e1, fun z hz => ?_⟩
        obtain ⟨a, ha, rfl⟩ := List.mem_map.1 hz
        refine mul_abs ?_ (e2 a ha)
        simp only [wrtB, decide_eq_true_eq] at hw
        unfold spn
        split <;> omega
      · cases hr
    · simp [rec] at hr
      have hn : n = 2 := by simp [kidN] at hk; omega
      obtain ⟨e1, e2⟩ := bx (by omega)
      obtain ⟨e3, e4⟩ := b_y (by omega)
      cases hr
      rw [ans_7]
      refine ⟨by simp; omega, fun z hz => ?_⟩
      show -(mx x3 y3) ≤ z ∧ z ≤ mx x3 y3
      unfold mx
      rcases List.mem_append.1 hz with hz | hz
      · have := e2 z hz; split <;> omega
      · have := e4 z hz; split <;> omega
    · simp [rec] at hr
      have hn : n = 1 := by simp [kidN] at hk; omega
      obtain ⟨e1, e2⟩ := bx (by omega)
      cases hr
      rw [ans_8]
      refine ⟨by simp, fun z hz => ?_⟩
      obtain rfl := List.mem_singleton.1 hz
      have := smL_bd e2
      rw [e1] at this
      exact this
    · simp [rec] at hr
      have hn : n = 1 := by simp [kidN] at hk; omega
      obtain ⟨e1, e2⟩ := bx (by omega)
      split at hr
      · rename_i hlo
        cases hr
        rw [ans_9]
        refine ⟨by simp, fun z hz => ?_⟩
        obtain rfl := List.mem_singleton.1 hz
        have hlt : lo.toNat < (ans l rs x).length := by omega
        rw [List.getD, List.getElem?_eq_getElem hlt]
        exact e2 _ (List.getElem_mem hlt)
      · cases hr
    · simp [rec] at hr
      have hn : n = 1 := by simp [kidN] at hk; omega
      obtain ⟨e1, e2⟩ := bx (by omega)
      split at hr
      · rename_i hw
        cases hr
        rw [ans_10]
        refine ⟨by simpa using e1, fun z hz => ?_⟩
        obtain ⟨a, ha, rfl⟩ := List.mem_map.1 hz
        exact inT_bd hw
      · cases hr
end Go.Proofs.YtlndlpjadajelaaGreat.K

namespace Go.Proofs.YtlndlpjadajelaaGreat.K
open Go.RowKit Go.Proofs.YtlndlpjadajelaaGreat.K.Ds

/-- NUMBERS OF ONE'S OWN: in block g, from lo on; they may be written, and grow. -/
def Arw (w : World) (lo g c : Nat) (xs : List Int) : Prop := w.ownsRow lo 3 1 (.slice (some ⟨g, 0, none⟩) xs.length c) xs.length (xs.map (.int .i64))
theorem Arw.inv {w : World} {lo g c : Nat} {xs : List Int} (h : Arw w lo g c xs) : ∃ cur : Array Value, lo ≤ g ∧ w.heap[g]? = some (.cells cur 3 (0, 0)) ∧ xs.length ≤ c ∧ c ≤ maxLen ∧ cur.size = c ∧ cur.toList.take xs.length = xs.map (.int .i64) := by
  obtain ⟨_, h | ⟨g', c', cur, e, h1, h2, h3, h4, h5, h6⟩⟩ := h
  · simp at h
  · simp only [Value.slice.injEq, Option.some.injEq, Addr.mk.injEq, and_true, true_and] at e
    obtain ⟨rfl, rfl⟩ := e
    exact ⟨cur, h1, h2, h3, h4, by simpa using h5, by simpa using h6⟩
theorem Arw.mk {w : World} {lo g c : Nat} {xs : List Int} {cur : Array Value} (h1 : lo ≤ g) (h2 : w.heap[g]? = some (.cells cur 3 (0, 0))) (h3 : xs.length ≤ c) (h4 : c ≤ maxLen) (h5 : cur.size = c) (h6 : cur.toList.take xs.length = xs.map (.int .i64)) : Arw w lo g c xs :=
  ⟨by simp, .inr ⟨g, c, cur, rfl, h1, h2, h3, h4, by simpa using h5, by simpa using h6⟩⟩
theorem Arw.lt {w : World} {lo g c : Nat} {xs : List Int} (h : Arw w lo g c xs) : lo ≤ g ∧ g < w.heap.size := by
  obtain ⟨cur, h1, h2, _⟩ := h.inv
  exact ⟨h1, (Array.getElem?_eq_some_iff.1 h2).1⟩
theorem Arw.at {w w' : World} {lo g c : Nat} {xs : List Int} (h : Arw w lo g c xs) (hb : Below w.heap.size w w') : Arw w' lo g c xs := owns_below h hb
theorem Arw.cell {w : World} {lo g c : Nat} {xs : List Int} (h : Arw w lo g c xs) {i : Nat} {x : Int} (hi : xs[i]? = some x) : w.cell? ⟨g, i, none⟩ = some (.int .i64 x) := by
  have := World.ownsRow.cells h (g := g) rfl i (.int .i64 x) (by simp [hi])
  rwa [Addr.add_lit, Nat.zero_add] at this
theorem Arw.fz {w : World} {lo g c : Nat} {xs : List Int} (h : Arw w lo g c xs) (i : Nat) : w.frozen? ⟨g, i, none⟩ = false := by
  obtain ⟨cur, _, h2, _⟩ := h.inv
  exact frozen_zero h2
theorem Arw.set {w : World} {lo g c : Nat} {xs : List Int} (h : Arw w lo g c xs) (i : Nat) (z : Int) : Arw (w.setCell ⟨g, i, none⟩ (.int .i64 z)) lo g c (xs.set i z) := by
  obtain ⟨cur, h1, h2, h3, h4, h5, h6⟩ := h.inv
  obtain ⟨hlt, hk⟩ := Array.getElem?_eq_some_iff.1 h2
  refine Arw.mk (cur := cur.setIfInBounds i (.int .i64 z)) h1 ?_ (by simpa using h3) h4 (by simpa using h5) ?_
  · show (w.heap.modify g _)[g]? = _
    rw [Array.getElem?_eq_getElem (by rw [Array.size_modify]; exact hlt), Array.getElem_modify_self, hk]
    rfl
  · rw [Array.toList_setIfInBounds, List.length_set, List.take_set, h6, List.map_set]
theorem Arw.gb {w w' : World} {lo g c : Nat} {xs : List Int} {row : Option Nat} (h : Arw w lo g c xs) (hg : w.grownBy w' row) (hne : some g ≠ row) : Arw w' lo g c xs :=
  World.ownsRow.kept h hg (.inr (by simpa [Value.ownBlock] using hne))
theorem Arw.oth {w : World} {lo g c : Nat} {xs : List Int} (h : Arw w lo g c xs) {b k : Nat} (hne : b ≠ g) (u : Value) : Arw (w.setCell ⟨b, k, none⟩ u) lo g c xs := by
  obtain ⟨cur, h1, h2, h3⟩ := h.inv
  exact Arw.mk h1 ((Below.heap_setCell _ _ _ g (fun e => hne (by simpa using e.symm))).trans h2) h3.1 h3.2.1 h3.2.2.1 h3.2.2.2
theorem Arw.mono {w : World} {lo lo' g c : Nat} {xs : List Int} (h : Arw w lo g c xs) (hl : lo' ≤ lo) : Arw w lo' g c xs := by
  obtain ⟨cur, h1, h2, h3⟩ := h.inv
  exact Arw.mk (by omega) h2 h3.1 h3.2.1 h3.2.2.1 h3.2.2.2
theorem maxLen_eq' : maxLen = 9223372036854775807 := by decide
theorem Arw.ints {w : World} {lo g c : Nat} {xs : List Int} (h : Arw w lo g c xs) (m : Nat) (hm : g ≠ m) : Ints w w.heap.size m (.slice (some ⟨g, 0, none⟩) xs.length c) xs := by
  obtain ⟨cur, h1, h2, h3, h4, h5, h6⟩ := h.inv
  rw [maxLen_eq'] at h4
  exact ⟨_, _, rfl, h3, by omega, fun _ => ⟨g, 0, rfl, h.lt.2, hm, fun i x hi => by rw [Nat.zero_add]; exact h.cell hi⟩⟩
theorem Arw.made (w : World) (lo n : Nat) (hlo : lo ≤ w.heap.size) (hn : n ≤ 1073741824) : Arw (w.alloc (.cells (madeCells #[.int .i64 0] n) 3)) lo w.heap.size n (List.replicate n 0) := by
  have hsz : (madeCells #[Value.int .i64 0] n).size = n := by simp [madeCells]
  refine Arw.mk hlo (World.alloc_heap_new w _) (by simp) (by rw [maxLen_eq']; omega) hsz ?_
  rw [List.length_replicate, List.take_of_length_le (by rw [Array.length_toList, hsz]; omega)]
  apply List.ext_getElem?
  intro i
  by_cases hi : i < n
  · simp [madeCells, hi, Nat.mod_one]
  · simp [madeCells, hi]
theorem Arw.lit (w : World) (lo : Nat) (z : Int) (hlo : lo ≤ w.heap.size) : Arw (w.alloc (.cells #[.int .i64 z] 3)) lo w.heap.size 1 [z] :=
  Arw.mk hlo (World.alloc_heap_new w _) (by simp) (by rw [maxLen_eq']; omega) rfl rfl
end Go.Proofs.YtlndlpjadajelaaGreat.K

namespace Go.Proofs.YtlndlpjadajelaaGreat.K
open Go.RowKit Go.Proofs.YtlndlpjadajelaaGreat.K.Ds
theorem col_struct : Tryz.prog.underlying 74 = some (.struct (Tryz.prog.fieldsOf 74)) := by rw [Program.fieldsOf, Tryz.underlying74]
theorem col_held : Tryz.prog.stoodInHeld 74 = false := by kernel_rfl
theorem col_guard : Tryz.prog.eqGuardType Tryz.prog.depth 64 = false := by kernel_rfl
theorem col_fields : ∃ f0 f1 : Field, (Tryz.prog.fieldsOf 74).toList = [f0, f1] ∧ f0.name ≠ "_" ∧ f1.name ≠ "_" ∧ f0.type = 9 ∧ f1.type = 3 ∧ f0.offset = 0 ∧ f1.offset = 1 := by
  refine ⟨_, _, by rw [Program.fieldsOf, Tryz.underlying74], by decide, by decide, rfl, rfl, rfl, rfl⟩
theorem col_neq (n1 n2 : ByteArray) (s1 s2 : Int) (r : Bool) (hr : (!decide ((n1, s1) = (n2, s2))) = r) (u : World) : (binOp .neq 74 (.agg #[.string n1, .int .i64 s1]) (.agg #[.string n2, .int .i64 s2])).run Tryz.prog u = .ok (.bool r) u := by
  obtain ⟨f0, f1, hf, n0, n1', t0, t1, o0, o1⟩ := col_fields
  rw [run_neq_struct, run_equalIn_struct u 9999 74 _ _ col_struct col_held, hf, ← hr]
  simp [Op.eqFields, n0, n1', t0, t1, o0, o1, go_sem, Tryz.underlying9, Tryz.underlying3, str_eq]
  by_cases h1 : n1 = n2 <;> by_cases h2 : s1 = s2 <;> simp [h1, h2]

theorem take_next {α : Type} {l m : List α} {i : Nat} {x : α} (h : l.take i = m.take i) (h1 : l[i]? = some x) (h2 : m[i]? = some x) : l.take (i + 1) = m.take (i + 1) := by
  rw [List.take_add_one, List.take_add_one, h, h1, h2]

set_option maxHeartbeats 1000000 in
theorem equal_any (B : Nat) (u v : Value) (l m : List Col) (w : World) (hB : B ≤ w.heap.size) (hp : Cols w B u l) (hq : Cols w B v m) (r : Bool) (hr : decide (l = m) = r) :
    Calls Tryz.prog 36 #[u, v] w fun e w' => e = .returned (.bool r) ∧ Below w.heap.size w w' := by
  have HP : Hid (Cols w B u l) := hp
  have HQ : Hid (Cols w B v m) := hq
  have HR : Hid (decide (l = m) = r) := hr
  obtain ⟨a, c, rfl, hc, hl⟩ := hp.slice
  obtain ⟨a2, c2, rfl, hc2, hl2⟩ := hq.slice
  clear hr
  go_enter Tryz.func36, Tryz.ntmps36
  by_cases hlen : l.length = m.length
  · have hle2 : (((l.length : Int)) != (m.length : Int)) = false := by simp [hlen]
    have HLN : Hid (l.length = m.length) := hlen
    clear hlen
    go_wp2
    go_loopw [13] (fun s wr => ∃ i : Nat, s = .int .i64 (i : Int) ∧ i ≤ l.length ∧ Hid (l.take i = m.take i) ∧ Below w.heap.size w wr) (fun s _ => l.length - (intOf s).toNat)
    case atStart => exact ⟨0, rfl, Nat.zero_le _, by simp [Hid], Below.refl _ _⟩
    case round =>
      obtain ⟨i, rfl, hi, HT, hbl⟩ := hrel
      by_cases h1 : i < l.length
      · obtain ⟨b, o, nm, sz, rfl, hb, hg, c1, c2', hn⟩ := HP.out.get hB hbl h1
        obtain ⟨b2, o2, nm2, sz2, rfl, hb2, hg2, d1, d2, hn2⟩ := HQ.out.get hB hbl (i := i) (by have := HLN.out; omega)
        have HG : Hid (l[i]? = some (nm, sz)) := hg
        have HG2 : Hid (m[i]? = some (nm2, sz2)) := hg2
        have z1 : (i : Int) < (m.length : Int) := by have := HLN.out; omega
        have hgd := col_guard
        clear hg hg2
        by_cases he : (nm, sz) = (nm2, sz2)
        · have hbn := col_neq nm nm2 sz sz2 false (by rw [decide_eq_true he]; rfl)
          have HX : Hid ((nm, sz) = (nm2, sz2)) := he
          clear he
          go_wp2
          go_quiet (fail)
          go_wp2
          go_roundw
          case rel => exact ⟨i + 1, by go_num, h1, take_next HT.out HG.out (by rw [HG2.out, HX.out]), below_drewN hbl _⟩
          case measure => simp [intOf]; omega
        · have hbn := col_neq nm nm2 sz sz2 true (by rw [decide_eq_false he]; rfl)
          obtain rfl : false = r := by
            rw [← HR.out]
            refine (decide_eq_false fun h => he ?_).symm
            have := HG.out
            rw [h, HG2.out] at this
            exact (Option.some.inj this).symm
          clear he
          go_wp2
          go_quiet (fail)
          go_wp2
          go_ret
          exact ⟨rfl, below_drewN hbl _⟩
      · obtain rfl : true = r := by
          rw [← HR.out]
          refine (decide_eq_true ?_).symm
          have := HT.out
          rwa [List.take_of_length_le (by omega), List.take_of_length_le (by have := HLN.out; omega)] at this
        go_wp2
        go_ret
        exact ⟨rfl, hbl⟩
  · have hle2 : (((l.length : Int)) != (m.length : Int)) = true := by simp; omega
    obtain rfl : false = r := by
      rw [← HR.out]
      exact (decide_eq_false fun h => hlen (by rw [h])).symm
    go_wp2
    go_ret
    exact ⟨rfl, Below.refl _ _⟩

/-- with the rows in one order -/
def sameB (l m : List Col) (rs us : List (List Int)) : Bool := decide (l = m ∧ rs = us)
end Go.Proofs.YtlndlpjadajelaaGreat.K

namespace Go.Proofs.YtlndlpjadajelaaGreat.K
open Go.RowKit Go.Proofs.YtlndlpjadajelaaGreat.K.Ds

theorem bcell {W w1 : World} (hb : Below W.heap.size W w1) : (∀ b o, b < W.heap.size → w1.cell? ⟨b, o, none⟩ = W.cell? ⟨b, o, none⟩) ∧ (∀ b o, b < W.heap.size → w1.frozen? ⟨b, o, none⟩ = W.frozen? ⟨b, o, none⟩) :=
  ⟨fun b o h => hb.cell (p := ⟨b, o, none⟩) h, fun b o h => hb.frozen (p := ⟨b, o, none⟩) h⟩

/-- sums so far are small -/
theorem apaS_le {x y : List Int} {M : Int} (hx : ∀ a ∈ x, 0 ≤ a ∧ a ≤ M) (hy : ∀ b ∈ y, 0 ≤ b ∧ b ≤ M) : 0 ≤ apaS x y ∧ apaS x y ≤ M * x.length := by
  induction x generalizing y with
  | nil => cases y <;> simp [apaS]
  | cons a x ih =>
    cases y with
    | nil => simp only [apaS]; exact ⟨Int.le_refl _, by have := hx a (by simp); exact Int.mul_nonneg (by omega) (by omega)⟩
    | cons b y =>
      have h1 := hx a (by simp)
      have h2 := hy b (by simp)
      have h3 := ih (y := y) (fun c hc => hx c (by simp [hc])) (fun c hc => hy c (by simp [hc]))
      simp only [apaS, List.length_cons]
      have e : M * ((x.length + 1 : Nat) : Int) = M * x.length + M := by rw [Int.natCast_add, Int.mul_add]; simp
      rw [e]
      omega
theorem mem_drop_bd {x : List Int} {M : Int} (hx : ∀ a ∈ x, 0 ≤ a ∧ a ≤ M) (i : Nat) : ∀ a ∈ x.drop i, 0 ≤ a ∧ a ≤ M := fun a h => hx a (List.mem_of_mem_drop h)

/-- what is wrong, before anything is counted -/
structure ApaE (l m : List Col) (rs us : List (List Int)) : Prop where
  wa : wroE l rs = 0
  wb : wroE m us = 0
  eq : l = m
theorem apaE_ok {l m : List Col} {rs us : List (List Int)} (h : apaE l m rs us = 0) : ApaE l m rs us := by
  unfold apaE at h
  split at h
  · split at h
    · split at h
      · exact ⟨by assumption, by assumption, by assumption⟩
      · cases h
    · rename_i h2; exact absurd h h2
  · rename_i h1; exact absurd h h1

set_option maxHeartbeats 2000000 in
set_option maxRecDepth 100000 in
theorem apart_any (B : Nat) (cu ru cv rv : Value) (l m : List Col) (ts us : List Rw) (w : World) (hB : B ≤ w.heap.size) (hp : Cols w B cu l) (hq : Rws w B ru ts) (hp2 : Cols w B cv m) (hq2 : Rws w B rv us) (n er : Int) (hn : apaT l m (rr ts) (rr us) = n) (hr : apaE l m (rr ts) (rr us) = er) :
    Calls Tryz.prog 12 #[.agg #[cu, ru], .agg #[cv, rv]] w fun e w' => e = .returned (.tuple #[.int .i64 n, .int .i64 er]) ∧ Below w.heap.size w w' := by
  have HP : Hid (Cols w B cu l) := hp
  have HQ : Hid (Rws w B ru ts) := hq
  have HP2 : Hid (Cols w B cv m) := hp2
  have HQ2 : Hid (Rws w B rv us) := hq2
  have HN : Hid (apaT l m (rr ts) (rr us) = n) := hn
  have HR : Hid (apaE l m (rr ts) (rr us) = er) := hr
  obtain ⟨a, c, rfl, hc, hl⟩ := hp.slice
  obtain ⟨a2, c2, rfl, hc2, hl2⟩ := hq.slice
  obtain ⟨a3, c3, rfl, hc3, hl3⟩ := hp2.slice
  obtain ⟨a4, c4, rfl, hc4, hl4⟩ := hq2.slice
  clear hn hr
  obtain ⟨W, hW⟩ : ∃ W, (w.alloc (.cells #[.slice a l.length c, .slice a2 ts.length c2] 27)).alloc (.cells #[.slice a3 m.length c3, .slice a4 us.length c4] 27) = W := ⟨_, rfl⟩
  have hbW : Below w.heap.size w W := by rw [← hW]; exact bal (ba _ _) _
  have hsW : W.heap.size = w.heap.size + 2 := by rw [← hW]; simp
  have p0 : W.cell? ⟨w.heap.size, 0, none⟩ = some (.slice a l.length c) := by rw [← hW]; simp [go_sem]
  have p1 : W.cell? ⟨w.heap.size, 1, none⟩ = some (.slice a2 ts.length c2) := by rw [← hW]; simp [go_sem]
  have p2 : W.cell? ⟨w.heap.size + 1, 0, none⟩ = some (.slice a3 m.length c3) := by rw [← hW]; simp [go_sem]
  have p3 : W.cell? ⟨w.heap.size + 1, 1, none⟩ = some (.slice a4 us.length c4) := by rw [← hW]; simp [go_sem]
  obtain ⟨xs, ea, hra⟩ : ∃ xs ea, Hid (cellsR l (rr ts) = (xs, ea)) := ⟨_, _, rfl⟩
  have kc := cells_any B _ _ l ts W (by omega) (HP.out.at hB hbW) (HQ.out.at hB hbW) xs ea hra.out
  go_enter Tryz.func12, Tryz.ntmps12
  go_wp2_with fail
  clear hW
  refine kc.mono ?_
  rintro e w1 ⟨v1, rfl, hx1, hb1⟩
  have HX1 : Hid (NewI W.heap.size w1 v1 xs) := hx1
  have hbw : Below w.heap.size w w1 := bt hbW hb1
  obtain ⟨h1c, h1f⟩ := bcell hb1
  have q0 := (h1c w.heap.size 0 (by omega)).trans p0
  have q1 := (h1c w.heap.size 1 (by omega)).trans p1
  have q2 := (h1c (w.heap.size + 1) 0 (by omega)).trans p2
  have q3 := (h1c (w.heap.size + 1) 1 (by omega)).trans p3
  have hz1 : w.heap.size + 2 ≤ w1.heap.size := by have := hb1.size; omega
  obtain ⟨va, vc, hv1, hvc1, hvl1⟩ := (hx1 0 (by omega)).slice
  subst hv1
  clear kc h1c h1f p0 p1 p2 p3 hx1 hb1
  by_cases he0 : ea = 0
  · subst he0
    have HA : Hid (wroE l (rr ts) = 0 ∧ celT l (rr ts) = xs) := by
      have := hra.out
      unfold cellsR at this
      split at this
      · rename_i h0; simp only [Prod.mk.injEq] at this; exact ⟨h0, this.1⟩
      · rename_i h0; simp only [Prod.mk.injEq] at this; exact absurd this.2 h0
    obtain ⟨ys, eb, hrb⟩ : ∃ ys eb, Hid (cellsR m (rr us) = (ys, eb)) := ⟨_, _, rfl⟩
    have kc := cells_any B _ _ m us w1 (by omega) (HP2.out.at hB hbw) (HQ2.out.at hB hbw) ys eb hrb.out
    go_wp2_with fail
    refine kc.mono ?_
    rintro e w2 ⟨v2, rfl, hx2, hb2⟩
    have HX2 : Hid (NewI w1.heap.size w2 v2 ys) := hx2
    have hbw2 : Below w.heap.size w w2 := bt hbw hb2
    obtain ⟨h1c, h1f⟩ := bcell hb2
    have r0 := (h1c w.heap.size 0 (by omega)).trans q0
    have r2 := (h1c (w.heap.size + 1) 0 (by omega)).trans q2
    have hz2 : w1.heap.size ≤ w2.heap.size := hb2.size
    have HX1b : Hid (Ints w2 w1.heap.size 0 (.slice va xs.length vc) xs) := (HX1.out 0 (by omega)).keep hb2
    obtain ⟨vb, vd, hv2, hvc2, hvl2⟩ := (hx2 0 (by omega)).slice
    subst hv2
    clear kc h1c h1f q0 q1 q2 q3 hx2 hb2
    by_cases he1 : eb = 0
    · subst he1
      have HBb : Hid (wroE m (rr us) = 0 ∧ celT m (rr us) = ys) := by
        have := hrb.out
        unfold cellsR at this
        split at this
        · rename_i h0; simp only [Prod.mk.injEq] at this; exact ⟨h0, this.1⟩
        · rename_i h0; simp only [Prod.mk.injEq] at this; exact absurd this.2 h0
      obtain ⟨rc, hrc⟩ : ∃ rc, Hid (decide (l = m) = rc) := ⟨_, rfl⟩
      have kc := equal_any B _ _ l m w2 (by omega) (HP.out.at hB hbw2) (HP2.out.at hB hbw2) rc hrc.out
      go_wp2_with fail
      refine kc.mono ?_
      rintro e w3 ⟨rfl, hb3⟩
      have hbw3 : Below w.heap.size w w3 := bt hbw2 hb3
      have hz3 := hb3.size
      have HX1c : Hid (Ints w3 w2.heap.size 0 (.slice va xs.length vc) xs) := (HX1b.out.mono hz2 (.inl rfl)).keep hb3
      have HX2c : Hid (Ints w3 w2.heap.size 0 (.slice vb ys.length vd) ys) := (HX2.out 0 (by omega)).keep hb3
      clear kc r0 r2
      cases rc with
      | false =>
        have hne : l ≠ m := of_decide_eq_false hrc.out
        obtain rfl : 8 = er := by rw [← HR.out, apaE, if_pos HA.out.1, if_pos HBb.out.1, if_neg hne]
        obtain rfl : 0 = n := by rw [← HN.out, apaT, HR.out, if_neg (by decide)]
        clear hne
        go_wp2
        go_ret2
        exact ⟨rfl, hbw3⟩
      | true =>
        have hlm : l = m := of_decide_eq_true hrc.out
        obtain rfl : 0 = er := by rw [← HR.out, apaE, if_pos HA.out.1, if_pos HBb.out.1, if_pos hlm]
        have HNN : Hid (apaS xs ys = n) := by rw [Hid, ← HN.out, apaT, HR.out, if_pos rfl, HA.out.2, HBb.out.2]
        have hxl : Hid (xs.length = prd l) := by rw [Hid, ← HA.out.2, celT_len]
        have hyl : Hid (ys.length = xs.length) := by rw [Hid, ← HBb.out.2, ← HA.out.2, celT_len, celT_len, hlm]
        have hx4 : xs.length ≤ 4096 := by rw [hxl.out]; exact (colE_ok (wroE_ok HA.out.1).1).2.2.2.1
        have HBX : Hid (∀ x ∈ xs, 0 ≤ x ∧ x ≤ (4096 : Int)) := by
          intro x hx
          rw [← HA.out.2] at hx
          have h1 := celT_bd hx
          have h2 := (wroE_ok HA.out.1).2.1
          omega
        have HBY : Hid (∀ x ∈ ys, 0 ≤ x ∧ x ≤ (4096 : Int)) := by
          intro x hx
          rw [← HBb.out.2] at hx
          have h1 := celT_bd hx
          have h2 := (wroE_ok HBb.out.1).2.1
          omega
        clear hlm
        go_wp2
        go_loopw [9, 35] (fun nv s wr => ∃ (i : Nat) (k : Int), nv = .int .i64 k ∧ s = .int .i64 (i : Int) ∧ i ≤ xs.length ∧ 0 ≤ k ∧ k ≤ 4096 * (i : Int) ∧ Hid (k + apaS (xs.drop i) (ys.drop i) = n) ∧ Below w3.heap.size w3 wr) (fun _ s _ => xs.length - (intOf s).toNat)
        case atStart => exact ⟨0, 0, rfl, rfl, Nat.zero_le _, by omega, by omega, by show _ = _; simpa using HNN.out, Below.refl _ _⟩
        case round =>
          obtain ⟨i, k, rfl, rfl, hi, hk0, hk1, HI, hbl⟩ := hrel
          by_cases h1 : i < xs.length
          · obtain ⟨b, o, x, rfl, hb, _, hg, e1⟩ := HX1c.out.get hz3 hbl h1
            obtain ⟨b2, o2, y, rfl, hb2, _, hg2, e2⟩ := HX2c.out.get hz3 hbl (i := i) (by have := hyl.out; omega)
            have hxb := HBX.out _ (List.mem_of_getElem? hg)
            have hyb := HBY.out _ (List.mem_of_getElem? hg2)
            have z1 : (i : Int) < (ys.length : Int) := by have := hyl.out; omega
            have ST : Hid (k + max (x - y) (y - x) + apaS (xs.drop (i + 1)) (ys.drop (i + 1)) = n) := by
              have := HI.out
              rw [apaS_step hg hg2] at this
              show _ = _
              omega
            clear hg hg2 HI
            go_wp2
            go_quiet (fail)
            go_wp2
            have hmx : (if x - y < y - x then y - x else x - y) = max (x - y) (y - x) := by split <;> omega
            go_roundw
            case rel => exact ⟨i + 1, k + max (x - y) (y - x), by rw [hmx], by go_num, h1, by omega, by omega, ST, below_drewN hbl _⟩
            case measure => simp [intOf]; omega
          · obtain rfl : k = n := by have := HI.out; rw [List.drop_eq_nil_of_le (by omega), List.drop_eq_nil_of_le (by have := hyl.out; omega)] at this; simpa [apaS] using this
            go_wp2
            go_ret2
            exact ⟨rfl, bt hbw3 hbl⟩
    · have hne : (eb != 0) = true := by simpa using he1
      have hwb : wroE m (rr us) = eb := by
        have := hrb.out
        unfold cellsR at this
        split at this
        · simp only [Prod.mk.injEq] at this; exact absurd this.2.symm he1
        · simp only [Prod.mk.injEq] at this; exact this.2
      obtain rfl : eb = er := by rw [← HR.out, apaE, if_pos HA.out.1, hwb, if_neg he1]
      obtain rfl : 0 = n := by rw [← HN.out, apaT, HR.out, if_neg he1]
      clear hwb
      go_wp2
      go_ret2
      exact ⟨rfl, hbw2⟩
  · have hne : (ea != 0) = true := by simpa using he0
    have hwa : wroE l (rr ts) = ea := by
      have := hra.out
      unfold cellsR at this
      split at this
      · simp only [Prod.mk.injEq] at this; exact absurd this.2.symm he0
      · simp only [Prod.mk.injEq] at this; exact this.2
    obtain rfl : ea = er := by rw [← HR.out, apaE, hwa, if_neg he0]
    obtain rfl : 0 = n := by rw [← HN.out, apaT, HR.out, if_neg he0]
    clear hwa
    go_wp2
    go_ret2
    exact ⟨rfl, hbw⟩
end Go.Proofs.YtlndlpjadajelaaGreat.K
