import Derived.Test.YtidfkencjdjkbaaDoorQr01
import Derived.Defers
import Derived.Recover
import Derived.Deep.DeepCutAuto
/-
  CHAPTER 15's MATHEMATICS (3): WHAT IS SAID IS HEARD, in pieces: by induction on the question.
-/
namespace Go.Proofs.YtidfkencjdjkbaaDoor
namespace Sp
open Go.Lib (decDigits itoa)

theorem sumL_succ {p : List Pc → PR Qu} {m : Nat} {a : Qu} {ps : List Pc} (h : hd ps = sPlus ∨ hd ps = sMinus) : sumL p (m + 1) a ps = match p ps.tail with
    | .error e => .error e
    | .ok (b, r) => sumL p m (.node (if hd ps = sPlus then 4 else 5) [] 0 0 [] 2 a b) r := by
  rw [sumL, if_pos h] <;> rfl
theorem pikL_succ {m : Nat} {a : Qu} {ps : List Pc} (h : hd ps = sLeft) : pikL (m + 1) a ps = match numP ps.tail with
    | .error e => .error e
    | .ok (n, r) => match tk sRight r with
      | .error e => .error e
      | .ok (_, r) => pikL m (.node 9 [] n 0 [] 1 a .none) r := by
  rw [pikL, if_pos h] <;> rfl
end Sp
end Go.Proofs.YtidfkencjdjkbaaDoor

/-
  CHAPTER 15's MATHEMATICS (4): what is read can be said.
-/
namespace Go.Proofs.YtidfkencjdjkbaaDoor
namespace Sp

theorem numP_say {ps r : List Pc} {n : Int} (h : numP ps = .ok (n, r)) : 0 ≤ n ∧ n ≤ 1048576 := by
  unfold numP at h
  split at h
  · split at h
    · simp only [Except.ok.injEq, Prod.mk.injEq] at h
      omega
    · cases h
  · cases h
theorem sgnP_say {ps r : List Pc} {n : Int} (h : sgnP ps = .ok (n, r)) : Rng n := by
  unfold sgnP at h
  split at h
  · split at h
    · cases h
    · split at h
      · rename_i e
        simp only [Except.ok.injEq, Prod.mk.injEq] at h
        have := numP_say e
        exact ⟨by omega, by omega⟩
      · cases h
  · have := numP_say h
    exact ⟨by omega, by omega⟩
theorem spnP_say {ps r : List Pc} {a : Int × Int} (h : spnP ps = .ok (a, r)) : Rng a.1 ∧ Rng a.2 := by
  unfold spnP at h
  split at h
  · cases h
  · rename_i e1
    split at h
    · cases h
    · split at h
      · cases h
      · rename_i e2
        simp only [Except.ok.injEq, Prod.mk.injEq] at h
        obtain ⟨rfl, _⟩ := h
        exact ⟨sgnP_say e1, sgnP_say e2⟩
theorem nmP_say {ps r : List Pc} {c : By} (h : nmP ps = .ok (c, r)) : nmd c = true := by
  unfold nmP at h
  split at h
  · rename_i c
    simp only [Except.ok.injEq, Prod.mk.injEq] at h
    rw [← h.1]; exact c
  · cases h
theorem dng_le (s : By) : dng s ≤ 6 := by
  unfold dng
  split
  · rename_i h
    have := List.idxOf_lt_length_iff.2 h
    have : sigs.length = 6 := rfl
    omega
  · omega
theorem tstP_say {ps r : List Pc} {t : Tst} (h : tstP ps = .ok (t, r)) : TOk t := by
  unfold tstP at h
  split at h
  · cases h
  · rename_i c0 r0 e1
    split at h
    · cases h
    · rename_i e0
      split at h
      · cases h
      · rename_i e2
        simp only [Except.ok.injEq, Prod.mk.injEq] at h
        obtain ⟨rfl, _⟩ := h
        have := dng_le (hd r0)
        exact ⟨nmP_say e1, by simp only; omega, by simp only; omega, sgnP_say e2⟩
theorem andL_say : ∀ (k : Nat) (l : List Tst) (ps r : List Pc) (l' : List Tst), andL k l ps = .ok (l', r) → l.length + k ≤ 64 → (∀ t ∈ l, TOk t) → WOk l'
  | 0, l, ps, r, l', h, hk, hl => by
    unfold andL at h
    split at h
    · cases h
    · simp only [Except.ok.injEq, Prod.mk.injEq] at h
      obtain ⟨rfl, _⟩ := h
      exact ⟨by omega, hl⟩
  | k + 1, l, ps, r, l', h, hk, hl => by
    unfold andL at h
    split at h
    · simp only at h
      split at h
      · cases h
      · rename_i t r0 e1
        refine andL_say k (l ++ [t]) _ r l' h (by rw [List.length_append, List.length_singleton]; omega) (fun x hx => ?_)
        simp only [List.mem_append, List.mem_singleton] at hx
        rcases hx with hx | rfl
        · exact hl x hx
        · exact tstP_say e1
    · simp only [Except.ok.injEq, Prod.mk.injEq] at h
      obtain ⟨rfl, _⟩ := h
      exact ⟨by omega, hl⟩
theorem whrP_say {ps r : List Pc} {l : List Tst} (h : whrP ps = .ok (l, r)) : WOk l := by
  unfold whrP at h
  split at h
  · split at h
    · cases h
    · rename_i t _ e1
      exact andL_say 63 [t] _ r l h (by simp) (fun x hx => by simp at hx; subst hx; exact tstP_say e1)
  · simp only [Except.ok.injEq, Prod.mk.injEq] at h
    obtain ⟨rfl, _⟩ := h
    exact ⟨by simp, by simp⟩
def SayP (p : List Pc → PR Qu) : Prop := ∀ ps a r, p ps = .ok (a, r) → Say a
theorem brkP_say {q : List Pc → PR Qu} (hq : SayP q) : SayP (brkP q) := by
  intro ps a r h
  unfold brkP at h
  split at h
  · cases h
  · split at h
    · cases h
    · rename_i e
      split at h
      · cases h
      · simp only [Except.ok.injEq, Prod.mk.injEq] at h
        obtain ⟨rfl, _⟩ := h
        exact hq _ _ _ e
theorem bthP_say {q : List Pc → PR Qu} (hq : SayP q) {ps r : List Pc} {a : Qu × Qu} (h : bthP q ps = .ok (a, r)) : Say a.1 ∧ Say a.2 := by
  unfold bthP at h
  split at h
  · cases h
  · split at h
    · cases h
    · rename_i e1
      split at h
      · cases h
      · split at h
        · cases h
        · rename_i e2
          split at h
          · cases h
          · simp only [Except.ok.injEq, Prod.mk.injEq] at h
            obtain ⟨rfl, _⟩ := h
            exact ⟨hq _ _ _ e1, hq _ _ _ e2⟩
theorem thgP_say {q : List Pc → PR Qu} (hq : SayP q) : SayP (thgP q) := by
  intro ps a r h
  unfold thgP at h
  split at h
  · exact brkP_say hq _ _ _ h
  split at h
  · split at h
    · cases h
    · rename_i e
      simp only [Except.ok.injEq, Prod.mk.injEq] at h
      obtain ⟨rfl, _⟩ := h
      exact .inl ⟨rfl, rfl, rfl, rfl, rfl, whrP_say e, rfl, rfl⟩
  split at h
  · split at h
    · cases h
    · rename_i e1
      split at h
      · cases h
      · rename_i e
        simp only [Except.ok.injEq, Prod.mk.injEq] at h
        obtain ⟨rfl, _⟩ := h
        exact .inr (.inr (.inl ⟨rfl, nmP_say e1, rfl, rfl, rfl, whrP_say e, rfl, rfl⟩))
  split at h
  · split at h
    · cases h
    · rename_i e1
      split at h
      · cases h
      · split at h
        · cases h
        · rename_i e2
          split at h
          · cases h
          · rename_i e
            simp only [Except.ok.injEq, Prod.mk.injEq] at h
            obtain ⟨rfl, _⟩ := h
            exact .inr (.inl ⟨rfl, nmP_say e1, (spnP_say e2).1, (spnP_say e2).2, rfl, whrP_say e, rfl, rfl⟩)
  split at h
  · split at h
    · cases h
    · rename_i e
      simp only [Except.ok.injEq, Prod.mk.injEq] at h
      obtain ⟨rfl, _⟩ := h
      exact .inr (.inr (.inr (.inr (.inr (.inl ⟨rfl, rfl, rfl, rfl, rfl, rfl, brkP_say hq _ _ _ e, rfl⟩)))))
  split at h
  · split at h
    · cases h
    · rename_i e1
      split at h
      · cases h
      · rename_i e
        simp only [Except.ok.injEq, Prod.mk.injEq] at h
        obtain ⟨rfl, _⟩ := h
        exact .inr (.inr (.inr (.inr (.inr (.inr (.inr ⟨rfl, rfl, (spnP_say e1).1, (spnP_say e1).2, rfl, rfl, brkP_say hq _ _ _ e, rfl⟩))))))
  split at h
  · split at h
    · cases h
    · rename_i e
      simp only [Except.ok.injEq, Prod.mk.injEq] at h
      obtain ⟨rfl, _⟩ := h
      have := bthP_say hq e
      exact .inr (.inr (.inr (.inl ⟨.inr (.inr rfl), rfl, rfl, rfl, rfl, rfl, this.1, this.2⟩)))
  · cases h
theorem pikL_say : ∀ (k : Nat) (a : Qu) (ps r : List Pc) (b : Qu), pikL k a ps = .ok (b, r) → Say a → Say b
  | 0, a, ps, r, b, h, ha => by
    unfold pikL at h
    split at h
    · cases h
    · simp only [Except.ok.injEq, Prod.mk.injEq] at h
      obtain ⟨rfl, _⟩ := h
      exact ha
  | k + 1, a, ps, r, b, h, ha => by
    by_cases c : hd ps = sLeft
    · rw [pikL_succ c] at h
      split at h
      · cases h
      · rename_i e1
        split at h
        · cases h
        · exact pikL_say k _ _ _ _ h (.inr (.inr (.inr (.inr (.inr (.inr (.inl ⟨rfl, rfl, numP_say e1, rfl, rfl, rfl, ha, rfl⟩)))))))
    · rw [pikL_end _ _ c] at h
      simp only [Except.ok.injEq, Prod.mk.injEq] at h
      obtain ⟨rfl, _⟩ := h
      exact ha
theorem sumL_say {p : List Pc → PR Qu} (hp : SayP p) : ∀ (k : Nat) (a : Qu) (ps r : List Pc) (b : Qu), sumL p k a ps = .ok (b, r) → Say a → Say b
  | 0, a, ps, r, b, h, ha => by
    unfold sumL at h
    split at h
    · cases h
    · simp only [Except.ok.injEq, Prod.mk.injEq] at h
      obtain ⟨rfl, _⟩ := h
      exact ha
  | k + 1, a, ps, r, b, h, ha => by
    by_cases c : hd ps = sPlus ∨ hd ps = sMinus
    · rw [sumL_succ c] at h
      split at h
      · cases h
      · rename_i e1
        refine sumL_say hp k _ _ _ _ h (.inr (.inr (.inr (.inl ⟨?_, rfl, rfl, rfl, rfl, rfl, ha, hp _ _ _ e1⟩))))
        split <;> simp
    · rw [sumL_end p _ _ (fun e => c (.inl e)) (fun e => c (.inr e))] at h
      simp only [Except.ok.injEq, Prod.mk.injEq] at h
      obtain ⟨rfl, _⟩ := h
      exact ha
theorem pikP_say {q : List Pc → PR Qu} (hq : SayP q) (n : Nat) : SayP (pikP q n) := by
  intro ps a r h
  unfold pikP at h
  split at h
  · cases h
  · rename_i e
    exact pikL_say n _ _ _ _ h (thgP_say hq _ _ _ e)
theorem qusP_say {p : List Pc → PR Qu} (hp : SayP p) (n : Nat) : SayP (qusP p n) := by
  intro ps a r h
  unfold qusP at h
  split at h
  · cases h
  · rename_i e
    exact sumL_say hp n _ _ _ _ h (hp _ _ _ e)
theorem prdP_say : ∀ k : Nat, SayP (prdP k)
  | 0 => fun ps a r h => by cases h
  | k + 1 => fun ps a r h => by
    unfold prdP at h
    split at h
    · split at h
      · cases h
      · rename_i e1
        split at h
        · cases h
        · split at h
          · cases h
          · rename_i e2
            simp only [Except.ok.injEq, Prod.mk.injEq] at h
            obtain ⟨rfl, _⟩ := h
            exact .inr (.inr (.inr (.inr (.inl ⟨rfl, rfl, sgnP_say e1, rfl, rfl, rfl, prdP_say k _ _ _ e2, rfl⟩))))
    · exact pikP_say (qusP_say (prdP_say k) 64) 64 _ _ _ h
/-- WHAT IS READ CAN BE SAID -/
theorem read_say {s : By} {a : Qu} (h : readT s = .ok a) : Say a := by
  unfold readT at h
  split at h
  · cases h
  · split at h
    · cases h
    · split at h
      · cases h
      · rename_i e
        split at h
        · simp only [Except.ok.injEq] at h
          subst h
          exact qusP_say (prdP_say 64) 64 _ _ _ e
        · cases h
end Sp
end Go.Proofs.YtidfkencjdjkbaaDoor

/-
  CHAPTER 15's MATHEMATICS (5): the text of a question, and its pieces: WHAT IS SAID IS HEARD.
-/
namespace Go.Proofs.YtidfkencjdjkbaaDoor
namespace Sp
open Go.Lib (decDigits itoa)

/-! ### cutting -/
theorem cutF_fuel : ∀ (n : Nat) (s : By) (f g a : Nat), s.length ≤ n → s.length ≤ f → s.length ≤ g → cutF f s a = cutF g s a := by
  intro n
  induction n with
  | zero =>
    intro s f g a h _ _
    obtain rfl : s = [] := List.length_eq_zero_iff.1 (by omega)
    cases f <;> cases g <;> rfl
  | succ n ih =>
    intro s f g a h hf hg
    cases s with
    | nil => cases f <;> cases g <;> rfl
    | cons c r =>
      simp only [List.length_cons] at h hf hg
      cases f with
      | zero => omega
      | succ f =>
        cases g with
        | zero => omega
        | succ g =>
          unfold cutF
          simp only
          by_cases c1 : c = 32 ∨ c = 10
          · rw [if_pos c1, if_pos c1]
            exact ih r f g (a + 1) (by omega) (by omega) (by omega)
          · rw [if_neg c1, if_neg c1]
            by_cases c2 : lonN (c :: r) = 0
            · rw [if_pos c2, if_pos c2]
            · rw [if_neg c2, if_neg c2]
              rw [ih ((c :: r).drop (lonN (c :: r))) f g _ (by rw [List.length_drop, List.length_cons]; omega) (by rw [List.length_drop, List.length_cons]; omega) (by rw [List.length_drop, List.length_cons]; omega)]
theorem cutT_nil (a : Nat) : cutT [] a = .ok [([], a)] := rfl
theorem cutT_sp (c : UInt8) (h : c = 32 ∨ c = 10) (r : By) (a : Nat) : cutT (c :: r) a = cutT r (a + 1) := by
  show (if c = 32 ∨ c = 10 then cutF r.length r (a + 1) else _) = cutF r.length r (a + 1)
  rw [if_pos h]
/-- what is cut is put ahead -/
def ahead (qs : List Pc) : Except Nat (List Pc) → Except Nat (List Pc)
  | .ok ps => .ok (qs ++ ps)
  | .error e => .error e
theorem cutT_pc {s z : By} {c : UInt8} {r : By} (hs : s = c :: r) (hc : ¬ (c = 32 ∨ c = 10)) (hl : lonN (s ++ z) = s.length) (a : Nat) : cutT (s ++ z) a = ahead [(s, a)] (cutT z (a + s.length)) := by
  subst hs
  unfold cutT
  rw [List.cons_append, List.length_cons]
  conv => lhs; unfold cutF
  simp only
  rw [List.cons_append] at hl
  rw [if_neg hc, hl, if_neg (by simp)]
  have e1 : (c :: (r ++ z)).drop (c :: r).length = z := by
    rw [← List.cons_append]; exact List.drop_left
  have e2 : (c :: (r ++ z)).take (c :: r).length = c :: r := by
    rw [← List.cons_append]; exact List.take_left
  rw [e1, e2, cutF_fuel z.length z (r ++ z).length z.length _ (Nat.le_refl _) (by simp) (Nat.le_refl _)]
  cases cutF z.length z (a + (c :: r).length) <;> rfl

/-! ### how long a piece is -/
theorem lonN_cons (c : UInt8) (r : By) : lonN (c :: r) = if letB c then runL letB (c :: r) else if digB c then runL digB (c :: r) else if twoB ((c :: r).take 2) then 2 else if oneB c then 1 else 0 := rfl
/-! ### chunks: what is written at once -/
/-! ### the text of a question -/
end Sp
end Go.Proofs.YtidfkencjdjkbaaDoor

/-
  PACKAGE speech, what is thrown: must, caught.
-/
namespace Go.Proofs.YtidfkencjdjkbaaDoor
open Go.RowKit

/-- what is thrown -/
def chn (e : Int) (a : Int) : List PanicEntry := [{ v := .iface 68 (.agg #[.int .i64 e, .int .i64 a]), recovered := false }]
theorem must_ok (e a : Int) (w : World) : Calls Tryd.prog 12 #[.bool true, .int .i64 e, .int .i64 a] w fun x w' => x = .returned (.tuple #[]) ∧ w' = w := by
  go_enter Tryd.func12, Tryd.ntmps12
  go_wp2
  go_end0
  exact ⟨rfl, rfl⟩
theorem must_no (e a : Int) (w : World) : Calls Tryd.prog 12 #[.bool false, .int .i64 e, .int .i64 a] w fun x w' => x = .panicked (chn e a) ∧ w' = w := by
  go_enter Tryd.func12, Tryd.ntmps12
  go_wp2
  exact ⟨rfl, rfl, rfl⟩
theorem hmf : ∀ (fn : Fn) (first cap : Array Value) (w : World), (Instr.makeFunc fn first cap).run Tryd.prog w = .ok (.func fn first cap) w := fun _ _ _ _ => rfl
theorem assert68 (v : Value) (w : World) : (Instr.typeAssert (.iface 68 v) 20 68 true).run Tryd.prog w = .ok (.tuple #[v, .bool true]) w := by
  simp [Instr.typeAssert, run_underlying Tryd.underlying68]
theorem eqnil68 (v : Value) (w : World) : (binOp .eql 20 (.iface 68 v) .nilIface).run Tryd.prog w = .ok (.bool false) w := by
  have h : ∀ d : Nat, (Op.equalIn (d + 1) 20 (.iface 68 v) .nilIface).run Tryd.prog w = .ok false w := fun d => by simp [Op.equalIn, run_underlying Tryd.underlying20]
  simp only [binOp]
  simp [Op.equal, Op.maxDepth, h 9999]
/-- a cell of one's own -/
structure Cl (w : World) (b k : Nat) (v : Value) : Prop where
  c : w.cell? ⟨b, k, none⟩ = some v
  f : w.frozen? ⟨b, k, none⟩ = false
  lt : b < w.heap.size
theorem Cl.at {w w' : World} {b k : Nat} {v : Value} (h : Cl w b k v) (hb : Below w.heap.size w w') : Cl w' b k v :=
  ⟨(hb.cell (p := ⟨b, k, none⟩) h.lt).trans h.c, (hb.frozen (p := ⟨b, k, none⟩) h.lt).trans h.f, Nat.lt_of_lt_of_le h.lt hb.size⟩
theorem Cl.new {w : World} {N : Nat} (cs : Array Value) (t : TypeId) (k : Nat) (x : Value) (hN : N = w.heap.size) (hx : cs[k]? = some x) : Cl (w.alloc (.cells cs t)) N k x :=
  ⟨nc cs t k x hN hx, nf cs t k hN, by subst hN; simp⟩
theorem Cl.set {w : World} {b k : Nat} {v : Value} (h : Cl w b k v) (u : Value) : Cl (w.setCell ⟨b, k, none⟩ u) b k u :=
  ⟨sc_same h.c, sc_frozen.trans h.f, by simpa using h.lt⟩
theorem Cl.oth {w : World} {b k b' k' : Nat} {v : Value} (h : Cl w b k v) (hne : b' ≠ b ∨ k' ≠ k) (u : Value) : Cl (w.setCell ⟨b', k', none⟩ u) b k v :=
  ⟨(sc_other (by intro e; simp only [Addr.mk.injEq] at e; omega)).trans h.c, sc_frozen.trans h.f, by simpa using h.lt⟩
/-- a block with these cells -/
def Bx (w : World) (b : Nat) (cs : List Value) : Prop := ∀ k v, cs[k]? = some v → Cl w b k v
theorem Bx.at {w w' : World} {b : Nat} {cs : List Value} (h : Bx w b cs) (hb : Below w.heap.size w w') : Bx w' b cs := fun k v hk => (h k v hk).at hb
theorem Bx.new (w : World) (cs : List Value) (t : TypeId) {N : Nat} (hN : N = w.heap.size) : Bx (w.alloc (.cells cs.toArray t)) N cs := fun k v hk => Cl.new _ t k v hN (by simpa using hk)
theorem Bx.set {w : World} {b i : Nat} {cs : List Value} (h : Bx w b cs) (hi : i < cs.length) (u : Value) : Bx (w.setCell ⟨b, i, none⟩ u) b (cs.set i u) := fun k v hk => by
  by_cases c : i = k
  · subst c
    rw [List.getElem?_set_self hi] at hk
    cases hk
    obtain ⟨z, hz⟩ : ∃ z, cs[i]? = some z := ⟨_, List.getElem?_eq_getElem hi⟩
    exact (h i z hz).set _
  · rw [List.getElem?_set_ne c] at hk
    exact (h k v hk).oth (.inr c) _
theorem Bx.oth {w : World} {b b' k : Nat} {cs : List Value} (h : Bx w b cs) (hne : b' ≠ b) (u : Value) : Bx (w.setCell ⟨b', k, none⟩ u) b cs := fun j v hj => (h j v hj).oth (.inl hne) _

/-- deferred, of a frame that throws -/
theorem catchA_no (p : Nat) (x y : Value) (e a : Int) (w : World) (hc : Bx w p [x, y]) :
    CallsD Tryd.prog 25 #[.pointer (some ⟨p, 0, none⟩)] (.panicking (chn e a)) w fun r u' w' =>
      r = .returned (.tuple #[]) ∧ u' = .panicking [{ v := .iface 68 (.agg #[.int .i64 e, .int .i64 a]), recovered := true }] ∧ w' = ((w.alloc (.cells #[.int .i64 e, .int .i64 a] 68)).setCell ⟨p, 0, none⟩ (.int .i64 e)).setCell ⟨p, 1, none⟩ (.int .i64 a) := by
  refine callsD_of_wpS Tryd.func25 rfl fun c₀ cs hu => ?_
  apply wpS_seq
  apply wpS_region
  simp [wpOpsS, go_sem, recoverD, hu, chn, Tryd.ntmps25, Exit.thenS]
  refine wpS_of_wp ?_
  change Code.wp Tryd.prog _ _ { tmps := #[.pointer (some ⟨p, 0, none⟩), undef, undef, undef, .iface 68 (.agg #[.int .i64 e, .int .i64 a]), undef, undef, undef, undef, undef, undef, undef], defers := [] } w
  have ha := assert68
  have hq := eqnil68
  have hz := hc.at (ba w (.cells #[.int .i64 e, .int .i64 a] 68))
  have z0 := (hz 0 _ rfl).c
  have z1 := (hz 1 _ rfl).c
  have y0 := (hz 0 _ rfl).f
  have y1 := (hz 1 _ rfl).f
  go_wp2
  exact ⟨rfl, _, rfl, _, results_none rfl _ _ _, rfl, rfl, rfl⟩
theorem catchA_ok (p : Addr) (w : World) :
    CallsD Tryd.prog 25 #[.pointer (some p)] .returning w fun r u' w' => r = .returned (.tuple #[]) ∧ u' = .returning ∧ w' = w := by
  refine callsD_of_wpS Tryd.func25 rfl fun c₀ cs hu => ?_
  apply wpS_seq
  apply wpS_region
  simp [wpOpsS, go_sem, recoverD, hu, Tryd.ntmps25, Exit.thenS]
  refine wpS_of_wp ?_
  change Code.wp Tryd.prog _ _ { tmps := #[.pointer (some p), undef, undef, undef, .nilIface, undef, undef, undef, undef, undef, undef, undef], defers := [] } w
  go_wp2
  exact ⟨rfl, .returning, by rw [← hu], _, results_none rfl _ _ _, rfl, rfl, rfl⟩
end Go.Proofs.YtidfkencjdjkbaaDoor
