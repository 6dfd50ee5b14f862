import Derived.Test.YtfibbjngllelbaaGreatTbl
import Derived.Test.YtfibbjngllelbaaGreatRat
namespace Go.Proofs.YtfibbjngllelbaaGreat.Ds

/-! ### products of right fractions that are at least 1 -/
abbrev Rq := Int × Int
/-- an entry: Do, Name, Part, Loss -/
abbrev En := Int × ByteArray × Int × Int × Int

def mulT (a b : Rq) : Rq × Int := (((Rt.timesT a.1 a.2 b.1 b.2).1, (Rt.timesT a.1 a.2 b.1 b.2).2.1), (Rt.timesT a.1 a.2 b.1 b.2).2.2)
theorem mulT_of {a b c d n m e : Int} (h : Rt.timesT a b c d = (n, m, e)) : mulT (a, b) (c, d) = ((n, m), e) := by unfold mulT; simp [h]
theorem mulT_is (a b : Rq) : Rt.timesT a.1 a.2 b.1 b.2 = ((mulT a b).1.1, (mulT a b).1.2, (mulT a b).2) := rfl
/-- right, and at least 1 -/
def OkR (r : Rq) : Prop := Rt.rightB r.1 r.2 = true ∧ r.2 ≤ r.1
def rq (q : Rat) : Rq := (q.num, (q.den : Int))
theorem OkR.rat {r : Rq} (h : OkR r) : ∃ q : Rat, r = rq q ∧ Rt.Ok q ∧ 1 ≤ q := by
  obtain ⟨q, h1, h2, h3⟩ := Rt.right_rat h.1
  refine ⟨q, by unfold rq; rw [h1, h2], h3, ?_⟩
  have h4 := h.2
  rw [← h1, ← h2] at h4
  rw [Rat.le_iff]; simpa using h4
theorem okR_of {q : Rat} (h : Rt.Ok q) (h1 : 1 ≤ q) : OkR (rq q) := ⟨Rt.rat_right q h, by rw [Rat.le_iff] at h1; simpa [rq] using h1⟩
theorem OkR.bd {r : Rq} (h : OkR r) : 0 ≤ r.1 ∧ r.1 ≤ 1073741824 ∧ 1 ≤ r.2 ∧ r.2 ≤ 1073741824 := Rt.right_bd h.1
def oneQ : Rq := (1, 1)
theorem ok_one : OkR oneQ := ⟨by decide, by decide⟩
theorem rq_one : rq 1 = oneQ := rfl
/-- at most -/
def LeR (a b : Rq) : Prop := a.1 * b.2 ≤ b.1 * a.2
instance (a b : Rq) : Decidable (LeR a b) := inferInstanceAs (Decidable (_ ≤ _))
theorem leR_rq (x y : Rat) : LeR (rq x) (rq y) ↔ x ≤ y := by unfold LeR rq; rw [Rat.le_iff]
theorem rq_inj {x y : Rat} (h : rq x = rq y) : x = y := by
  unfold rq at h; simp only [Prod.mk.injEq] at h; exact Rt.rat_same h.1 h.2
theorem one_mul_le {x y : Rat} (hx : 1 ≤ x) (hy : 1 ≤ y) : 1 ≤ x * y ∧ x ≤ x * y := by
  have h0 : (0 : Rat) ≤ x := Rat.le_trans (by decide) hx
  have h2 : x * 1 ≤ x * y := Rat.mul_le_mul_of_nonneg_left hy h0
  rw [Rat.mul_one] at h2
  exact ⟨Rat.le_trans hx h2, h2⟩
theorem mul_rq {x y : Rat} (hx : Rt.Ok x) (hy : Rt.Ok y) (h1 : 1 ≤ x) (h2 : 1 ≤ y) : (Rt.Ok (x * y) ∧ mulT (rq x) (rq y) = (rq (x * y), 0)) ∨ (¬ Rt.Ok (x * y) ∧ mulT (rq x) (rq y) = ((0, 0), 4)) := by
  have ht := Rt.times_rat x y hx hy
  have hp : (0 : Rat) ≤ x * y := Rat.le_trans (by decide) (one_mul_le h1 h2).1
  have hn : 0 ≤ (x * y).num := Rat.num_nonneg.2 hp
  by_cases h : Rt.Ok (x * y)
  · left; refine ⟨h, ?_⟩
    rw [Rt.tell_of _ h] at ht
    exact mulT_of ht
  · right; refine ⟨h, ?_⟩
    have : Rt.tell (x * y) = (0, 0, 4) := by
      unfold Rt.tell
      rw [if_neg (by omega), if_pos]
      unfold Rt.Ok at h
      omega
    rw [this] at ht
    exact mulT_of ht
theorem mul_one_one : mulT oneQ oneQ = (oneQ, 0) := by
  have ho : Rt.Ok 1 := ⟨by decide, by decide, by decide⟩
  rcases mul_rq ho ho Rat.le_refl Rat.le_refl with ⟨_, e⟩ | ⟨h, _⟩
  · rw [Rat.mul_one, rq_one] at e; exact e
  · rw [Rat.mul_one] at h; exact absurd ho h
theorem mul_cases {a b : Rq} (ha : OkR a) (hb : OkR b) : ((mulT a b).2 = 0 ∧ OkR (mulT a b).1 ∧ LeR a (mulT a b).1 ∧ LeR b (mulT a b).1) ∨ mulT a b = ((0, 0), 4) := by
  obtain ⟨x, rfl, hx, hx1⟩ := ha.rat
  obtain ⟨y, rfl, hy, hy1⟩ := hb.rat
  rcases mul_rq hx hy hx1 hy1 with ⟨h, e⟩ | ⟨_, e⟩
  · left
    rw [e]
    refine ⟨rfl, okR_of h (one_mul_le hx1 hy1).1, (leR_rq _ _).2 (one_mul_le hx1 hy1).2, (leR_rq _ _).2 ?_⟩
    rw [Rat.mul_comm]; exact (one_mul_le hy1 hx1).2
  · right; exact e
theorem leR_refl (a : Rq) : LeR a a := Int.le_refl _
theorem leR_trans {a b c : Rq} (ha : OkR a) (hb : OkR b) (hc : OkR c) (h1 : LeR a b) (h2 : LeR b c) : LeR a c := by
  obtain ⟨x, rfl, _, _⟩ := ha.rat
  obtain ⟨y, rfl, _, _⟩ := hb.rat
  obtain ⟨z, rfl, _, _⟩ := hc.rat
  rw [leR_rq] at *
  exact Rat.le_trans h1 h2
theorem leR_anti {a b : Rq} (ha : OkR a) (hb : OkR b) (h1 : LeR a b) (h2 : LeR b a) : a = b := by
  obtain ⟨x, rfl, _, _⟩ := ha.rat
  obtain ⟨y, rfl, _, _⟩ := hb.rat
  rw [leR_rq] at *
  rw [Rat.le_antisymm h1 h2]
theorem leR_total {a b : Rq} (ha : OkR a) (hb : OkR b) (h : ¬ LeR a b) : LeR b a := by
  obtain ⟨x, rfl, _, _⟩ := ha.rat
  obtain ⟨y, rfl, _, _⟩ := hb.rat
  rw [leR_rq] at *
  exact Rat.le_of_lt (Rat.not_le.1 h)
theorem one_le {a : Rq} (h : OkR a) : LeR oneQ a := by
  obtain ⟨x, rfl, _, h1⟩ := h.rat
  rw [← rq_one, leR_rq]; exact h1
/-- a product with what is no more is no more -/
theorem mul_mono {a b c : Rq} (ha : OkR a) (hb : OkR b) (hc : OkR c) (h : LeR b c) (h1 : (mulT a b).2 = 0) (h2 : (mulT a c).2 = 0) : LeR (mulT a b).1 (mulT a c).1 := by
  obtain ⟨x, rfl, hx, hx1⟩ := ha.rat
  obtain ⟨y, rfl, hy, hy1⟩ := hb.rat
  obtain ⟨z, rfl, hz, hz1⟩ := hc.rat
  rw [leR_rq] at h
  rcases mul_rq hx hy hx1 hy1 with ⟨_, e1⟩ | ⟨_, e1⟩
  · rcases mul_rq hx hz hx1 hz1 with ⟨_, e2⟩ | ⟨_, e2⟩
    · rw [e1, e2, leR_rq]
      exact Rat.mul_le_mul_of_nonneg_left h (Rat.le_trans (by decide) hx1)
    · rw [e2] at h2; simp at h2
  · rw [e1] at h1; simp at h1

/-! ### products of many -/
def prodT (r : Rq) : List Rq → Rq × Int
  | [] => (r, 0)
  | x :: xs => if (mulT r x).2 = 0 then prodT (mulT r x).1 xs else ((0, 0), (mulT r x).2)
theorem prod_snoc (r : Rq) (l : List Rq) (x : Rq) : prodT r (l ++ [x]) = if (prodT r l).2 = 0 then (if (mulT (prodT r l).1 x).2 = 0 then mulT (prodT r l).1 x else ((0, 0), (mulT (prodT r l).1 x).2)) else prodT r l := by
  induction l generalizing r with
  | nil =>
    simp only [List.nil_append, prodT]
    by_cases h : (mulT r x).2 = 0
    · simp [h]; rw [← h]
    · simp [h]
  | cons y l ih =>
    simp only [List.cons_append, prodT]
    by_cases h : (mulT r y).2 = 0
    · simp only [h, ↓reduceIte]; exact ih _
    · simp [h]

/-! ### what a book says -/
def isE (n : ByteArray) (d p : Int) (e : En) : Bool := decide (e.2.1 = n ∧ e.1 = d ∧ (d ≠ 3 ∨ e.2.2.1 = p))
/-- what was spent of a purse by one kind (of one part) -/
def lss (done : List En) (n : ByteArray) (d p : Int) : List Rq := (done.filter (isE n d p)).map (·.2.2.2)
def allP (done : List En) (n : ByteArray) : Rq × Int := prodT oneQ (lss done n 2 0)
def prtP (done : List En) (n : ByteArray) (p : Int) : Rq × Int := prodT oneQ (lss done n 3 p)
/-- the parts on which something was spent, as often as it was -/
def prs (done : List En) (n : ByteArray) : List Int := (done.filter fun e => decide (e.2.1 = n ∧ e.1 = 3)).map (·.2.2.1)
/-- each once -/
def onceT (out : List Int) : List Int → List Int
  | [] => out
  | p :: ps => if p ∈ out then onceT out ps else onceT (out ++ [p]) ps
def parT (done : List En) (n : ByteArray) : List Int := onceT [] (prs done n)
def mostT (f : Int → Rq × Int) (m : Rq) : List Int → Rq × Int
  | [] => (m, 0)
  | p :: ps => if (f p).2 = 0 then mostT f (if LeR m (f p).1 then (f p).1 else m) ps else ((0, 0), (f p).2)
def spentT (done : List En) (n : ByteArray) : Rq × Int :=
  if (allP done n).2 = 0 then (if (mostT (prtP done n) oneQ (prs done n)).2 = 0 then mulT (allP done n).1 (mostT (prtP done n) oneQ (prs done n)).1 else ((0, 0), (mostT (prtP done n) oneQ (prs done n)).2)) else ((0, 0), (allP done n).2)
def budT (done : List En) (n : ByteArray) : Option Rq := (done.find? fun e => decide (e.1 = 1 ∧ e.2.1 = n)).map (·.2.2.2)
def opsT (done : List En) : List ByteArray := (done.filter fun e => decide (e.1 = 1)).map (·.2.1)
/-- what is wrong with an entry, whatever book it comes to -/
def badT (e : En) : Int := if e.1 < 1 ∨ 3 < e.1 then 1 else if namB e.2.1.data.toList = true ∧ Rt.rightB e.2.2.2.1 e.2.2.2.2 = true then (if e.2.2.2.1 < e.2.2.2.2 then 3 else 0) else 2
def doT (done : List En) (e : En) : Int :=
  if badT e ≠ 0 then badT e else if 4096 ≤ done.length then 4 else
  match budT done e.2.1 with
  | none => if e.1 = 1 then (if 64 ≤ (opsT done).length then 5 else 0) else 7
  | some b => if e.1 = 1 then 7 else
    if e.1 = 3 ∧ (e.2.2.1 < 0 ∨ 1073741824 < e.2.2.1) then 3 else
    if e.1 = 3 ∧ 64 < (parT (done ++ [e]) e.2.1).length then 5 else
    if (spentT (done ++ [e]) e.2.1).2 ≠ 0 then (spentT (done ++ [e]) e.2.1).2 else if LeR (spentT (done ++ [e]) e.2.1).1 b then 0 else 10
/-- as it stands in a book -/
def nrm (e : En) : En := if e.1 = 3 then e else (e.1, e.2.1, 0, e.2.2.2)
theorem nrm_1 (e : En) : (nrm e).1 = e.1 := by unfold nrm; split <;> rfl
theorem nrm_n (e : En) : (nrm e).2.1 = e.2.1 := by unfold nrm; split <;> rfl
theorem nrm_l (e : En) : (nrm e).2.2.2 = e.2.2.2 := by unfold nrm; split <;> rfl
theorem nrm_nrm (e : En) : nrm (nrm e) = nrm e := by
  by_cases h : e.1 = 3
  · simp [nrm, h]
  · simp [nrm, h]
def bookT (done : List En) : List En → List Int × List En
  | [] => ([], done)
  | e :: es => (doT done (nrm e) :: (bookT (if doT done (nrm e) = 0 then done ++ [nrm e] else done) es).1, (bookT (if doT done (nrm e) = 0 then done ++ [nrm e] else done) es).2)
theorem book_len (done l : List En) : (bookT done l).1.length = l.length := by
  induction l generalizing done with
  | nil => rfl
  | cons e es ih => simp only [bookT, List.length_cons]; rw [ih]
theorem book_app (done l m : List En) : bookT done (l ++ m) = ((bookT done l).1 ++ (bookT (bookT done l).2 m).1, (bookT (bookT done l).2 m).2) := by
  induction l generalizing done with
  | nil => simp [bookT]
  | cons e es ih => simp only [List.cons_append, bookT, ih]
/-- one entry more -/
def stepD (done : List En) (e : En) : List En := if doT done (nrm e) = 0 then done ++ [nrm e] else done
theorem book_snoc (done l : List En) (e : En) : bookT done (l ++ [e]) = ((bookT done l).1 ++ [doT (bookT done l).2 (nrm e)], stepD (bookT done l).2 e) := by
  rw [book_app]; simp only [bookT, stepD]

/-! ### the greatest -/
structure Top (f : Int → Rq) (P : Int → Prop) (m : Rq) : Prop where
  ok : OkR m
  oks : ∀ p, P p → OkR (f p)
  is : m = oneQ ∨ ∃ p, P p ∧ f p = m
  le : ∀ p, P p → LeR (f p) m
theorem Top.uniq {f : Int → Rq} {P : Int → Prop} {a b : Rq} (ha : Top f P a) (hb : Top f P b) : a = b := by
  refine leR_anti ha.ok hb.ok ?_ ?_
  · rcases ha.is with rfl | ⟨p, hp, rfl⟩
    · exact one_le hb.ok
    · exact hb.le p hp
  · rcases hb.is with rfl | ⟨p, hp, rfl⟩
    · exact one_le ha.ok
    · exact ha.le p hp
theorem Top.congr {f g : Int → Rq} {P Q : Int → Prop} {m : Rq} (h : Top f P m) (hP : ∀ p, P p ↔ Q p) (hf : ∀ p, P p → f p = g p) : Top g Q m :=
  ⟨h.ok, fun p hp => hf p ((hP p).2 hp) ▸ h.oks p ((hP p).2 hp), h.is.imp id fun ⟨p, hp, e⟩ => ⟨p, (hP p).1 hp, by rw [← hf p hp]; exact e⟩, fun p hp => hf p ((hP p).2 hp) ▸ h.le p ((hP p).2 hp)⟩
theorem top_none (f : Int → Rq) : Top f (fun _ => False) oneQ := ⟨ok_one, fun _ h => h.elim, .inl rfl, fun _ h => h.elim⟩
theorem Top.more {f : Int → Rq} {P : Int → Prop} {m : Rq} (h : Top f P m) {p : Int} (hp : OkR (f p)) : Top f (fun q => P q ∨ q = p) (if LeR m (f p) then f p else m) := by
  have hoks : ∀ q, (P q ∨ q = p) → OkR (f q) := fun q hq => by
    rcases hq with hq | rfl
    · exact h.oks q hq
    · exact hp
  by_cases c : LeR m (f p)
  · rw [if_pos c]
    refine ⟨hp, hoks, .inr ⟨p, .inr rfl, rfl⟩, fun q hq => ?_⟩
    rcases hq with hq | rfl
    · exact leR_trans (h.oks q hq) h.ok hp (h.le q hq) c
    · exact leR_refl _
  · rw [if_neg c]
    refine ⟨h.ok, hoks, h.is.imp id fun ⟨q, hq, e⟩ => ⟨q, .inl hq, e⟩, fun q hq => ?_⟩
    rcases hq with hq | rfl
    · exact h.le q hq
    · exact leR_total h.ok hp c
/-- the other way to choose: only what is more -/
theorem pick_same {a b : Rq} (ha : OkR a) (hb : OkR b) : (if LeR a b then b else a) = (if LeR b a then a else b) := by
  by_cases c : LeR a b
  · by_cases c2 : LeR b a
    · rw [if_pos c, if_pos c2]; exact leR_anti hb ha c2 c
    · rw [if_pos c, if_neg c2]
  · rw [if_neg c, if_pos (leR_total ha hb c)]
theorem most_top {f : Int → Rq × Int} {P : Int → Prop} {m : Rq} (ps : List Int) (h : Top (fun p => (f p).1) P m) (hf : ∀ p ∈ ps, (f p).2 = 0 ∧ OkR (f p).1) :
    (mostT f m ps).2 = 0 ∧ Top (fun p => (f p).1) (fun q => P q ∨ q ∈ ps) (mostT f m ps).1 := by
  induction ps generalizing P m with
  | nil => exact ⟨rfl, h.congr (by simp) (fun _ _ => rfl)⟩
  | cons p ps ih =>
    have h1 := hf p (List.mem_cons_self ..)
    have h2 := ih (h.more (p := p) h1.2) (fun q hq => hf q (List.mem_cons_of_mem _ hq))
    simp only [mostT, h1.1, ↓reduceIte]
    refine ⟨h2.1, h2.2.congr (fun q => ?_) (fun _ _ => rfl)⟩
    simp only [List.mem_cons]
    constructor
    · rintro ((h | h) | h)
      · exact .inl h
      · exact .inr (.inl h)
      · exact .inr (.inr h)
    · rintro (h | h | h)
      · exact .inl (.inl h)
      · exact .inl (.inr h)
      · exact .inr h
theorem most_bad {f : Int → Rq × Int} {m : Rq} (ps : List Int) {c : Int} (hc : c ≠ 0) (hf : ∀ p ∈ ps, (f p).2 = 0 ∨ (f p).2 = c) (he : ∃ p ∈ ps, (f p).2 = c) : mostT f m ps = ((0, 0), c) := by
  induction ps generalizing m with
  | nil => simp at he
  | cons p ps ih =>
    by_cases h : (f p).2 = 0
    · simp only [mostT, h, ↓reduceIte]
      refine ih (fun q hq => hf q (List.mem_cons_of_mem _ hq)) ?_
      obtain ⟨q, hq, e⟩ := he
      rcases List.mem_cons.1 hq with rfl | hq
      · exact absurd (h.symm.trans e).symm hc
      · exact ⟨q, hq, e⟩
    · simp only [mostT, h, ↓reduceIte]
      rcases hf p (List.mem_cons_self ..) with e | e
      · exact absurd e h
      · rw [e]

/-! ### one entry more -/
theorem lss_snoc (done : List En) (e : En) (n : ByteArray) (d p : Int) : lss (done ++ [e]) n d p = lss done n d p ++ (if isE n d p e = true then [e.2.2.2] else []) := by
  unfold lss
  rw [List.filter_append, List.map_append]
  by_cases h : isE n d p e = true <;> simp [h]
theorem prs_snoc (done : List En) (e : En) (n : ByteArray) : prs (done ++ [e]) n = prs done n ++ (if e.2.1 = n ∧ e.1 = 3 then [e.2.2.1] else []) := by
  unfold prs
  rw [List.filter_append, List.map_append]
  by_cases h : e.2.1 = n ∧ e.1 = 3 <;> simp [h]
theorem ops_snoc (done : List En) (e : En) : opsT (done ++ [e]) = opsT done ++ (if e.1 = 1 then [e.2.1] else []) := by
  unfold opsT
  rw [List.filter_append, List.map_append]
  by_cases h : e.1 = 1 <;> simp [h]
theorem bud_snoc (done : List En) (e : En) (n : ByteArray) : budT (done ++ [e]) n = (budT done n).or (if e.1 = 1 ∧ e.2.1 = n then some e.2.2.2 else none) := by
  unfold budT
  rw [List.find?_append]
  by_cases h : e.1 = 1 ∧ e.2.1 = n
  · cases hf : done.find? (fun e => decide (e.1 = 1 ∧ e.2.1 = n)) <;> simp [h]
  · cases hf : done.find? (fun e => decide (e.1 = 1 ∧ e.2.1 = n)) <;> simp [h]
theorem bud_ops (done : List En) (n : ByteArray) : budT done n = none ↔ n ∉ opsT done := by
  unfold budT opsT
  simp only [Option.map_eq_none_iff, List.find?_eq_none, decide_eq_true_eq, List.mem_map, List.mem_filter, not_exists, not_and, and_imp]
theorem once_app (out l m : List Int) : onceT out (l ++ m) = onceT (onceT out l) m := by
  induction l generalizing out with
  | nil => rfl
  | cons p l ih => simp only [List.cons_append, onceT]; split <;> exact ih _
theorem once_mem (out l : List Int) (x : Int) : x ∈ onceT out l ↔ x ∈ out ∨ x ∈ l := by
  induction l generalizing out with
  | nil => simp [onceT]
  | cons p l ih =>
    simp only [onceT]
    split
    · next h =>
      rw [ih]; simp only [List.mem_cons]
      constructor
      · rintro (h | h) <;> simp [h]
      · rintro (h1 | rfl | h1)
        · exact .inl h1
        · exact .inl h
        · exact .inr h1
    · rw [ih]; simp only [List.mem_append, List.mem_cons, List.not_mem_nil, or_false, or_assoc]
theorem once_nodup (out l : List Int) (h : out.Nodup) : (onceT out l).Nodup := by
  induction l generalizing out with
  | nil => exact h
  | cons p l ih =>
    simp only [onceT]
    split
    · exact ih _ h
    · next hp =>
      refine ih _ ?_
      rw [List.nodup_append]
      exact ⟨h, by simp, fun a ha b hb => by simp at hb; subst hb; exact fun e => hp (e ▸ ha)⟩
theorem par_mem (done : List En) (n : ByteArray) (p : Int) : p ∈ parT done n ↔ p ∈ prs done n := by unfold parT; rw [once_mem]; simp
theorem par_nodup (done : List En) (n : ByteArray) : (parT done n).Nodup := once_nodup _ _ (by simp)
theorem par_snoc (done : List En) (e : En) (n : ByteArray) : parT (done ++ [e]) n = if e.2.1 = n ∧ e.1 = 3 ∧ e.2.2.1 ∉ parT done n then parT done n ++ [e.2.2.1] else parT done n := by
  unfold parT
  rw [prs_snoc, once_app]
  by_cases h : e.2.1 = n ∧ e.1 = 3
  · simp only [h, and_self, ↓reduceIte, true_and, onceT]
    split <;> simp_all
  · rw [if_neg h, if_neg (fun c => h ⟨c.1, c.2.1⟩)]; rfl

/-! ### what holds of a book at all times -/
structure Inv (done : List En) : Prop where
  len : done.length ≤ 4096
  bad : ∀ e ∈ done, badT e = 0 ∧ nrm e = e ∧ (e.1 = 3 → 0 ≤ e.2.2.1 ∧ e.2.2.1 ≤ 1073741824) ∧ ∃ b, budT done e.2.1 = some b
  all : ∀ n, (allP done n).2 = 0 ∧ OkR (allP done n).1
  prt : ∀ n p, (prtP done n p).2 = 0 ∧ OkR (prtP done n p).1
  ok : ∀ n, (spentT done n).2 = 0
  le : ∀ n b, budT done n = some b → LeR (spentT done n).1 b
  ops : (opsT done).length ≤ 64
  nod : (opsT done).Nodup
  par : ∀ n, (parT done n).length ≤ 64
theorem bad_ok {e : En} (h : badT e = 0) : 1 ≤ e.1 ∧ e.1 ≤ 3 ∧ namB e.2.1.data.toList = true ∧ OkR e.2.2.2 := by
  unfold badT at h
  by_cases c1 : e.1 < 1 ∨ 3 < e.1
  · rw [if_pos c1] at h; omega
  rw [if_neg c1] at h
  by_cases c2 : namB e.2.1.data.toList = true ∧ Rt.rightB e.2.2.2.1 e.2.2.2.2 = true
  · rw [if_pos c2] at h
    by_cases c3 : e.2.2.2.1 < e.2.2.2.2
    · rw [if_pos c3] at h; omega
    · exact ⟨by omega, by omega, c2.1, c2.2, by omega⟩
  · rw [if_neg c2] at h; omega
theorem inv_nil : Inv [] := by
  refine ⟨by simp, by simp, fun n => ⟨rfl, ok_one⟩, fun n p => ⟨rfl, ok_one⟩, fun n => by simp [spentT, allP, lss, prs, prodT, mostT, mul_one_one], fun n b h => by simp [budT] at h, by simp [opsT], by simp [opsT], fun n => by simp [parT, prs, onceT]⟩
/-- the greatest product of one part -/
theorem Inv.top {done : List En} (h : Inv done) (n : ByteArray) : (mostT (prtP done n) oneQ (prs done n)).2 = 0 ∧ Top (fun p => (prtP done n p).1) (fun p => p ∈ prs done n) (mostT (prtP done n) oneQ (prs done n)).1 := by
  have := most_top (f := prtP done n) (prs done n) (top_none _) (fun p _ => h.prt n p)
  exact ⟨this.1, this.2.congr (by simp) (fun _ _ => rfl)⟩
theorem spent_of {done : List En} {n : ByteArray} (h1 : (allP done n).2 = 0) (h2 : (mostT (prtP done n) oneQ (prs done n)).2 = 0) : spentT done n = mulT (allP done n).1 (mostT (prtP done n) oneQ (prs done n)).1 := by
  unfold spentT; rw [if_pos h1, if_pos h2]
theorem Inv.spent {done : List En} (h : Inv done) (n : ByteArray) : spentT done n = mulT (allP done n).1 (mostT (prtP done n) oneQ (prs done n)).1 := spent_of (h.all n).1 (h.top n).1
theorem Inv.spent_ok {done : List En} (h : Inv done) (n : ByteArray) : OkR (spentT done n).1 ∧ LeR (allP done n).1 (spentT done n).1 := by
  have h1 := h.ok n
  rw [h.spent n] at *
  rcases mul_cases (h.all n).2 (h.top n).2.ok with ⟨_, h2, h3, _⟩ | h2
  · exact ⟨h2, h3⟩
  · rw [h2] at h1; simp at h1

/-- the book behind an entry of a purse n, as seen by name -/
theorem all_other {done : List En} {e : En} {n : ByteArray} (h : ¬ (e.2.1 = n ∧ e.1 = 2)) : allP (done ++ [e]) n = allP done n := by
  unfold allP; rw [lss_snoc, if_neg, List.append_nil]; simp [isE]; intro h1 h2; exact h ⟨h1, h2⟩
theorem prt_other {done : List En} {e : En} {n : ByteArray} {p : Int} (h : ¬ (e.2.1 = n ∧ e.1 = 3 ∧ e.2.2.1 = p)) : prtP (done ++ [e]) n p = prtP done n p := by
  unfold prtP; rw [lss_snoc, if_neg, List.append_nil]; simp [isE]; intro h1 h2 h3; exact h ⟨h1, h2, h3⟩
theorem prs_other {done : List En} {e : En} {n : ByteArray} (h : ¬ (e.2.1 = n ∧ e.1 = 3)) : prs (done ++ [e]) n = prs done n := by
  rw [prs_snoc, if_neg h, List.append_nil]
theorem all_this {done : List En} (h : Inv done) {e : En} (he : e.1 = 2) : allP (done ++ [e]) e.2.1 = if (mulT (allP done e.2.1).1 e.2.2.2).2 = 0 then mulT (allP done e.2.1).1 e.2.2.2 else ((0, 0), (mulT (allP done e.2.1).1 e.2.2.2).2) := by
  have h1 := (h.all e.2.1).1
  unfold allP at *
  rw [lss_snoc, if_pos (by simp [isE, he]), prod_snoc, if_pos h1]
theorem prt_this {done : List En} (h : Inv done) {e : En} (he : e.1 = 3) : prtP (done ++ [e]) e.2.1 e.2.2.1 = if (mulT (prtP done e.2.1 e.2.2.1).1 e.2.2.2).2 = 0 then mulT (prtP done e.2.1 e.2.2.1).1 e.2.2.2 else ((0, 0), (mulT (prtP done e.2.1 e.2.2.1).1 e.2.2.2).2) := by
  have h1 := (h.prt e.2.1 e.2.2.1).1
  unfold prtP at *
  rw [lss_snoc, if_pos (by simp [isE, he]), prod_snoc, if_pos h1]
theorem prt_none {done : List En} {n : ByteArray} {p : Int} (h : p ∉ prs done n) : prtP done n p = (oneQ, 0) := by
  have : lss done n 3 p = [] := by
    unfold lss
    rw [List.map_eq_nil_iff, List.filter_eq_nil_iff]
    intro e he
    simp only [isE, decide_eq_true_eq]
    rintro ⟨h1, h2, h3⟩
    refine h ?_
    unfold prs
    rw [List.mem_map]
    exact ⟨e, List.mem_filter.2 ⟨he, by simp [h1, h2]⟩, by rcases h3 with h3 | h3; exact absurd rfl h3; exact h3⟩
  unfold prtP; rw [this]; rfl
theorem spent_other {done : List En} {e : En} {n : ByteArray} (h : ¬ (e.2.1 = n ∧ (e.1 = 2 ∨ e.1 = 3))) : spentT (done ++ [e]) n = spentT done n := by
  have h1 : allP (done ++ [e]) n = allP done n := all_other fun c => h ⟨c.1, .inl c.2⟩
  have h2 : prs (done ++ [e]) n = prs done n := prs_other fun c => h ⟨c.1, .inr c.2⟩
  have h3 : prtP (done ++ [e]) n = prtP done n := funext fun p => prt_other fun c => h ⟨c.1, .inr c.2.1⟩
  unfold spentT; rw [h1, h2, h3]
/-- what is spent when a loss more is spent on all -/
theorem spent_all {done : List En} (h : Inv done) {e : En} (he : e.1 = 2) (ho : OkR e.2.2.2) :
    (mulT (allP done e.2.1).1 e.2.2.2 = ((0, 0), 4) ∧ spentT (done ++ [e]) e.2.1 = ((0, 0), 4)) ∨
    ((mulT (allP done e.2.1).1 e.2.2.2).2 = 0 ∧ OkR (mulT (allP done e.2.1).1 e.2.2.2).1 ∧ allP (done ++ [e]) e.2.1 = mulT (allP done e.2.1).1 e.2.2.2 ∧ spentT (done ++ [e]) e.2.1 = mulT (mulT (allP done e.2.1).1 e.2.2.2).1 (mostT (prtP done e.2.1) oneQ (prs done e.2.1)).1) := by
  have ha := all_this h he
  have h2 : prs (done ++ [e]) e.2.1 = prs done e.2.1 := prs_other fun c => by omega
  have h3 : prtP (done ++ [e]) e.2.1 = prtP done e.2.1 := funext fun p => prt_other fun c => by omega
  rcases mul_cases (h.all e.2.1).2 ho with ⟨h4, h5, _, _⟩ | h4
  · right
    rw [if_pos h4] at ha
    refine ⟨h4, h5, ha, ?_⟩
    unfold spentT
    rw [ha, h2, h3, if_pos h4, if_pos (h.top e.2.1).1]
  · left
    refine ⟨h4, ?_⟩
    rw [h4] at ha
    unfold spentT
    rw [ha]; simp
/-- what is spent when a loss more is spent on one part -/
theorem spent_part {done : List En} (h : Inv done) {e : En} (he : e.1 = 3) (ho : OkR e.2.2.2) :
    (mulT (prtP done e.2.1 e.2.2.1).1 e.2.2.2 = ((0, 0), 4) ∧ spentT (done ++ [e]) e.2.1 = ((0, 0), 4)) ∨
    ((mulT (prtP done e.2.1 e.2.2.1).1 e.2.2.2).2 = 0 ∧ OkR (mulT (prtP done e.2.1 e.2.2.1).1 e.2.2.2).1 ∧ prtP (done ++ [e]) e.2.1 e.2.2.1 = mulT (prtP done e.2.1 e.2.2.1).1 e.2.2.2 ∧
      (∀ m, Top (fun p => (prtP (done ++ [e]) e.2.1 p).1) (fun p => p ∈ prs (done ++ [e]) e.2.1) m → spentT (done ++ [e]) e.2.1 = mulT (allP done e.2.1).1 m) ∧ ∃ m, Top (fun p => (prtP (done ++ [e]) e.2.1 p).1) (fun p => p ∈ prs (done ++ [e]) e.2.1) m) := by
  have ha := prt_this h he
  have h1 : allP (done ++ [e]) e.2.1 = allP done e.2.1 := all_other fun c => by omega
  have h2 : prs (done ++ [e]) e.2.1 = prs done e.2.1 ++ [e.2.2.1] := by rw [prs_snoc, if_pos ⟨rfl, he⟩]
  have h3 : ∀ p, p ≠ e.2.2.1 → prtP (done ++ [e]) e.2.1 p = prtP done e.2.1 p := fun p hp => prt_other fun c => hp c.2.2.symm
  rcases mul_cases (h.prt e.2.1 e.2.2.1).2 ho with ⟨h4, h5, _, _⟩ | h4
  · right
    rw [if_pos h4] at ha
    have hok : ∀ p, (prtP (done ++ [e]) e.2.1 p).2 = 0 ∧ OkR (prtP (done ++ [e]) e.2.1 p).1 := fun p => by
      by_cases hp : p = e.2.2.1
      · rw [hp, ha]; exact ⟨h4, h5⟩
      · rw [h3 p hp]; exact h.prt _ _
    have ht := most_top (f := prtP (done ++ [e]) e.2.1) (prs (done ++ [e]) e.2.1) (top_none _) (fun p _ => hok p)
    have ht2 : Top (fun p => (prtP (done ++ [e]) e.2.1 p).1) (fun p => p ∈ prs (done ++ [e]) e.2.1) (mostT (prtP (done ++ [e]) e.2.1) oneQ (prs (done ++ [e]) e.2.1)).1 := ht.2.congr (by simp) (fun _ _ => rfl)
    refine ⟨h4, h5, ha, fun m hm => ?_, _, ht2⟩
    rw [spent_of (by rw [h1]; exact (h.all _).1) ht.1, h1, hm.uniq ht2]
  · left
    refine ⟨h4, ?_⟩
    have hb : mostT (prtP (done ++ [e]) e.2.1) oneQ (prs (done ++ [e]) e.2.1) = ((0, 0), 4) := by
      rw [h4] at ha
      refine most_bad _ (by decide) (fun p _ => ?_) ⟨e.2.2.1, by rw [h2]; simp, by rw [ha]; simp⟩
      by_cases hp : p = e.2.2.1
      · right; rw [hp, ha]; simp
      · left; rw [h3 p hp]; exact (h.prt _ _).1
    unfold spentT
    rw [h1, if_pos (h.all _).1, hb]; simp
theorem doT_bad {done : List En} {e : En} (h : doT done e = 0) : badT e = 0 ∧ done.length < 4096 := by
  unfold doT at h
  by_cases c1 : badT e ≠ 0
  · rw [if_pos c1] at h; exact absurd h c1
  rw [if_neg c1] at h
  by_cases c2 : 4096 ≤ done.length
  · rw [if_pos c2] at h; omega
  · exact ⟨by omega, by omega⟩
/-- an entry that may be done -/
theorem doT_ok {done : List En} {e : En} (h : doT done e = 0) : badT e = 0 ∧ done.length < 4096 ∧ ((e.1 = 1 ∧ budT done e.2.1 = none ∧ (opsT done).length < 64) ∨
    (e.1 ≠ 1 ∧ ∃ b, budT done e.2.1 = some b ∧ (e.1 = 3 → 0 ≤ e.2.2.1 ∧ e.2.2.1 ≤ 1073741824 ∧ (parT (done ++ [e]) e.2.1).length ≤ 64) ∧ (spentT (done ++ [e]) e.2.1).2 = 0 ∧ LeR (spentT (done ++ [e]) e.2.1).1 b)) := by
  obtain ⟨h1, h2⟩ := doT_bad h
  refine ⟨h1, h2, ?_⟩
  unfold doT at h
  rw [if_neg (by omega), if_neg (by omega)] at h
  cases hb : budT done e.2.1 with
  | none =>
    left
    simp only [hb] at h
    by_cases c : e.1 = 1
    · rw [if_pos c] at h
      by_cases c2 : 64 ≤ (opsT done).length
      · rw [if_pos c2] at h; omega
      · exact ⟨c, rfl, by omega⟩
    · rw [if_neg c] at h; omega
  | some b =>
    right
    simp only [hb] at h
    by_cases c : e.1 = 1
    · rw [if_pos c] at h; omega
    rw [if_neg c] at h
    by_cases c1 : e.1 = 3 ∧ (e.2.2.1 < 0 ∨ 1073741824 < e.2.2.1)
    · rw [if_pos c1] at h; omega
    rw [if_neg c1] at h
    by_cases c2 : e.1 = 3 ∧ 64 < (parT (done ++ [e]) e.2.1).length
    · rw [if_pos c2] at h; omega
    rw [if_neg c2] at h
    by_cases c3 : (spentT (done ++ [e]) e.2.1).2 ≠ 0
    · rw [if_pos c3] at h; exact absurd h c3
    rw [if_neg c3] at h
    by_cases c4 : LeR (spentT (done ++ [e]) e.2.1).1 b
    · exact ⟨c, b, rfl, fun h3 => ⟨by omega, by omega, by omega⟩, by omega, c4⟩
    · rw [if_neg c4] at h; omega
theorem inv_snoc {done : List En} (h : Inv done) {e : En} (hd : doT done e = 0) (hn : nrm e = e) : Inv (done ++ [e]) := by
  obtain ⟨h1, h2, h3⟩ := doT_ok hd
  obtain ⟨b1, b2, b3, b4⟩ := bad_ok h1
  have hbud : ∀ n b, budT done n = some b → budT (done ++ [e]) n = some b := fun n b hb => by rw [bud_snoc, hb]; rfl
  have hbude : ∃ b, budT (done ++ [e]) e.2.1 = some b := by
    rcases h3 with ⟨h4, h5, _⟩ | ⟨_, b, h5, _⟩
    · rw [bud_snoc, h5, if_pos ⟨h4, rfl⟩]; exact ⟨_, rfl⟩
    · exact ⟨b, hbud _ _ h5⟩
  have hall : ∀ n, (allP (done ++ [e]) n).2 = 0 ∧ OkR (allP (done ++ [e]) n).1 := fun n => by
    by_cases c : e.2.1 = n ∧ e.1 = 2
    · obtain ⟨rfl, c2⟩ := c
      rcases spent_all h c2 b4 with ⟨_, h6⟩ | ⟨h5, h6, h7, _⟩
      · rcases h3 with ⟨h4, _⟩ | ⟨_, b, _, _, h7, _⟩
        · omega
        · rw [h6] at h7; simp at h7
      · rw [h7]; exact ⟨h5, h6⟩
    · rw [all_other c]; exact h.all n
  have hprt : ∀ n p, (prtP (done ++ [e]) n p).2 = 0 ∧ OkR (prtP (done ++ [e]) n p).1 := fun n p => by
    by_cases c : e.2.1 = n ∧ e.1 = 3 ∧ e.2.2.1 = p
    · obtain ⟨rfl, c2, rfl⟩ := c
      rcases spent_part h c2 b4 with ⟨_, h6⟩ | ⟨h5, h6, h7, _⟩
      · rcases h3 with ⟨h4, _⟩ | ⟨_, b, _, _, h7, _⟩
        · omega
        · rw [h6] at h7; simp at h7
      · rw [h7]; exact ⟨h5, h6⟩
    · rw [prt_other c]; exact h.prt n p
  have hsp : ∀ n, e.2.1 = n → e.1 ≠ 1 → (spentT (done ++ [e]) n).2 = 0 ∧ ∀ b, budT (done ++ [e]) n = some b → LeR (spentT (done ++ [e]) n).1 b := fun n hn1 hn2 => by
    subst hn1
    rcases h3 with ⟨h4, _⟩ | ⟨_, b, h5, _, h7, h8⟩
    · exact absurd h4 hn2
    · refine ⟨h7, fun b' hb' => ?_⟩
      rw [hbud _ _ h5] at hb'
      simp only [Option.some.injEq] at hb'
      exact hb' ▸ h8
  refine ⟨by simp; omega, fun x hx => ?_, hall, hprt, fun n => ?_, fun n b hb => ?_, ?_, ?_, fun n => ?_⟩
  · rw [List.mem_append] at hx
    rcases hx with hx | hx
    · obtain ⟨k1, k2, k3, b, k4⟩ := h.bad x hx
      exact ⟨k1, k2, k3, b, hbud _ _ k4⟩
    · simp only [List.mem_singleton] at hx
      subst hx
      refine ⟨h1, hn, fun c => ?_, hbude⟩
      rcases h3 with ⟨h4, _⟩ | ⟨_, b, _, h6, _⟩
      · omega
      · exact ⟨(h6 c).1, (h6 c).2.1⟩
  · by_cases c : e.2.1 = n ∧ (e.1 = 2 ∨ e.1 = 3)
    · exact (hsp n c.1 (by omega)).1
    · rw [spent_other c]; exact h.ok n
  · by_cases c : e.2.1 = n ∧ (e.1 = 2 ∨ e.1 = 3)
    · exact (hsp n c.1 (by omega)).2 b hb
    · rw [spent_other c]
      rw [bud_snoc] at hb
      cases hb0 : budT done n with
      | some b0 =>
        rw [hb0] at hb
        simp only [Option.some_or, Option.some.injEq] at hb
        exact hb ▸ h.le n b0 hb0
      | none =>
        rw [hb0] at hb
        have hz : prs done n = [] := by
          unfold prs
          rw [List.map_eq_nil_iff, List.filter_eq_nil_iff]
          intro x hx
          simp only [decide_eq_true_eq]
          rintro ⟨k1, _⟩
          obtain ⟨_, _, _, b', k4⟩ := h.bad x hx
          rw [k1, hb0] at k4; cases k4
        have hy : lss done n 2 0 = [] := by
          unfold lss
          rw [List.map_eq_nil_iff, List.filter_eq_nil_iff]
          intro x hx
          simp only [isE, decide_eq_true_eq]
          rintro ⟨k1, _⟩
          obtain ⟨_, _, _, b', k4⟩ := h.bad x hx
          rw [k1, hb0] at k4; cases k4
        by_cases c2 : e.1 = 1 ∧ e.2.1 = n
        · rw [if_pos c2] at hb
          simp only [Option.none_or, Option.some.injEq] at hb
          subst hb
          have : spentT done n = (oneQ, 0) := by
            simp [spentT, allP, hz, hy, prodT, mostT, mul_one_one]
          rw [this]; exact one_le b4
        · rw [if_neg c2] at hb; simp at hb
  · rw [ops_snoc]
    by_cases c : e.1 = 1
    · rw [if_pos c]
      rcases h3 with ⟨_, _, h6⟩ | ⟨h4, _⟩
      · simp; omega
      · exact absurd c h4
    · rw [if_neg c]; simpa using h.ops
  · rw [ops_snoc]
    by_cases c : e.1 = 1
    · rw [if_pos c]
      rcases h3 with ⟨_, h5, _⟩ | ⟨h4, _⟩
      · rw [List.nodup_append]
        refine ⟨h.nod, by simp, fun a ha b hb => ?_⟩
        simp only [List.mem_singleton] at hb
        subst hb
        exact fun e' => (bud_ops done e.2.1).1 h5 (e' ▸ ha)
      · exact absurd c h4
    · rw [if_neg c]; simpa using h.nod
  · by_cases c : e.2.1 = n ∧ e.1 = 3
    · obtain ⟨rfl, c2⟩ := c
      rcases h3 with ⟨h4, _⟩ | ⟨_, b, _, h6, _⟩
      · omega
      · exact (h6 c2).2.2
    · rw [par_snoc, if_neg (fun k => c ⟨k.1, k.2.1⟩)]; exact h.par n
theorem inv_step {done : List En} (h : Inv done) (e : En) : Inv (stepD done e) := by
  unfold stepD
  by_cases c : doT done (nrm e) = 0
  · rw [if_pos c]; exact inv_snoc h c (nrm_nrm e)
  · rw [if_neg c]; exact h
theorem inv_book {done : List En} (h : Inv done) (l : List En) : Inv (bookT done l).2 := by
  induction l generalizing done with
  | nil => exact h
  | cons e es ih =>
    simp only [bookT]
    exact ih (inv_step h e)

/-! ### the laws' own mathematics -/
theorem bud_mem {done : List En} (h : Inv done) {e : En} (he : e ∈ done) (h1 : e.1 = 1) : budT done e.2.1 = some e.2.2.2 := by
  have hn := h.nod
  clear h
  induction done with
  | nil => simp at he
  | cons x xs ih =>
    unfold budT
    rw [List.find?_cons]
    by_cases c : x.1 = 1 ∧ x.2.1 = e.2.1
    · simp only [c, and_self, decide_true]
      rcases List.mem_cons.1 he with rfl | he'
      · rfl
      · exfalso
        have : opsT (x :: xs) = x.2.1 :: opsT xs := by unfold opsT; rw [List.filter_cons, if_pos (by simp [c.1])]; rfl
        rw [this, List.nodup_cons, c.2] at hn
        exact hn.1 (List.mem_map.2 ⟨e, List.mem_filter.2 ⟨he', by simp [h1]⟩, rfl⟩)
    · simp only [c, decide_false]
      rcases List.mem_cons.1 he with rfl | he'
      · exact absurd ⟨h1, rfl⟩ c
      · refine ih he' ?_
        unfold opsT at hn
        rw [List.filter_cons] at hn
        by_cases c2 : x.1 = 1
        · rw [if_pos (by simp [c2])] at hn
          exact (List.nodup_cons.1 hn).2
        · rw [if_neg (by simp [c2])] at hn; exact hn
/-- of what was done no budget is overspent -/
theorem never_all {done : List En} (h : Inv done) {e : En} (he : e ∈ done) (h1 : e.1 = 1) : LeR (allP done e.2.1).1 e.2.2.2 :=
  leR_trans (h.all _).2 (h.spent_ok _).1 (bad_ok (h.bad e he).1).2.2.2 (h.spent_ok _).2 (h.le _ _ (bud_mem h he h1))
theorem never_part {done : List En} (h : Inv done) {e : En} (he : e ∈ done) (h1 : e.1 = 1) {p : Int} (hp : p ∈ parT done e.2.1) (hw : (mulT (allP done e.2.1).1 (prtP done e.2.1 p).1).2 = 0) :
    LeR (mulT (allP done e.2.1).1 (prtP done e.2.1 p).1).1 e.2.2.2 := by
  have ht := h.top e.2.1
  have hs := h.spent e.2.1
  have ho := h.ok e.2.1
  rw [hs] at ho
  have hle := mul_mono (h.all e.2.1).2 (h.prt e.2.1 p).2 ht.2.ok (ht.2.le p ((par_mem _ _ _).1 hp)) hw ho
  have hb := h.le _ _ (bud_mem h he h1)
  rw [hs] at hb
  have ho2 := (h.spent_ok e.2.1).1
  rw [hs] at ho2
  refine leR_trans ?_ ho2 (bad_ok (h.bad e he).1).2.2.2 hle hb
  rcases mul_cases (h.all e.2.1).2 (h.prt e.2.1 p).2 with ⟨_, k, _⟩ | k
  · exact k
  · rw [k] at hw; simp at hw
/-- what was done can be done again -/
theorem book_again (l : List En) : bookT [] (bookT [] l).2 = (List.replicate (bookT [] l).2.length 0, (bookT [] l).2) := by
  suffices h : ∀ l : List En, ∀ done, bookT [] done = (List.replicate done.length 0, done) → bookT [] (bookT done l).2 = (List.replicate (bookT done l).2.length 0, (bookT done l).2) from h l [] rfl
  intro l
  induction l with
  | nil => intro done h; exact h
  | cons e es ih =>
    intro done h
    simp only [bookT]
    refine ih _ ?_
    by_cases c : doT done (nrm e) = 0
    · rw [if_pos c, book_snoc, h]
      simp only [nrm_nrm, stepD, c, ↓reduceIte, List.length_append, List.length_cons, List.length_nil, Nat.zero_add, Prod.mk.injEq, and_true]
      rw [List.replicate_succ']
    · rw [if_neg c]; exact h
end Go.Proofs.YtfibbjngllelbaaGreat.Ds
