import Derived.Test.YtnoedkebmpfagaaTnu
import Derived.Test.YtnoedkebmpfagaaWcm
import Derived.Lib.AppendStr
import Derived.Laws.IdiomStrings
import Derived.Laws.BytesArg
import Derived.Lib.SlBytesRow
/-
  CHAPTER 16: cells, texts, bytes of one's own; append of bytes.
-/
namespace Go.Proofs.Ytnoedkebmpfagaa
open Go.RowKit Wc

abbrev ptR (R : Nat) : Value := .pointer (some ⟨R, 0, none⟩)
/-- a text of these bytes -/
abbrev tx (t : By) : ByteArray := ⟨t.toArray⟩
theorem tx_of (s : ByteArray) : s = tx s.data.toList := rfl
theorem tx_size (t : By) : (tx t).size = t.length := by show t.toArray.size = _; simp
theorem tx_inj {x y : By} : tx x = tx y ↔ x = y := by
  constructor
  · intro h
    have := congrArg (fun b : ByteArray => b.data.toList) h
    simpa using this
  · rintro rfl; rfl
theorem by_beq (x t : By) : (x == t) = decide (x = t) := by rw [Bool.eq_iff_iff]; simp
theorem eqs (x t : By) (b : Bool) (h : decide (x = t) = b) (u : World) : (binOp .eql 9 (.string (tx x)) (.string (tx t))).run Try.prog u = .ok (.bool b) u := by
  subst h
  simp only [binOp, Op.stringOp]
  simp [by_beq]
theorem tx_ext (t : By) (i j : Nat) : (tx t).extract i j = tx ((t.drop i).take (j - i)) := by
  have h : ((tx t).extract i j).data = (tx ((t.drop i).take (j - i))).data := by
    simp
    try rw [List.take_drop]
  cases hx : (tx t).extract i j with
  | mk d => rw [hx] at h; simp only at h; rw [h]

/-- a cell of one's own -/
structure Cl (w : World) (b k : Nat) (v : Value) : Prop where
  c : w.cell? ⟨b, k, none⟩ = some v
  f : w.frozen? ⟨b, k, none⟩ = false
  lt : b < w.heap.size
theorem Cl.at {w w' : World} {b k : Nat} {v : Value} (h : Cl w b k v) (hb : Below w.heap.size w w') : Cl w' b k v :=
  ⟨(hb.cell (p := ⟨b, k, none⟩) h.lt).trans h.c, (hb.frozen (p := ⟨b, k, none⟩) h.lt).trans h.f, Nat.lt_of_lt_of_le h.lt hb.size⟩
theorem Cl.bel {w w' : World} {b k B : Nat} {v : Value} (h : Cl w b k v) (hB : b < B) (hb : Below B w w') : Cl w' b k v :=
  ⟨(hb.cell (p := ⟨b, k, none⟩) hB).trans h.c, (hb.frozen (p := ⟨b, k, none⟩) hB).trans h.f, Nat.lt_of_lt_of_le h.lt hb.size⟩
theorem Cl.gb {w w' : World} {b k : Nat} {v : Value} {r : Option Nat} (h : Cl w b k v) (hg : w.grownBy w' r) (hn : some b ≠ r) : Cl w' b k v := by
  have hk : w'.heap[b]? = w.heap[b]? := hg.block b h.lt hn
  exact ⟨(World.cell?_of_block (w := w) (a := ⟨b, k, none⟩) hk).trans h.c, (World.frozen?_of_block (w := w) (a := ⟨b, k, none⟩) hk).trans h.f, Nat.lt_of_lt_of_le h.lt hg.size⟩
theorem Cl.new {w : World} {N : Nat} (cs : Array Value) (t : TypeId) (k : Nat) (x : Value) (hN : N = w.heap.size) (hx : cs[k]? = some x) : Cl (w.alloc (.cells cs t)) N k x :=
  ⟨nc cs t k x hN hx, nf cs t k hN, by subst hN; simp⟩
theorem Cl.set {w : World} {b k : Nat} {v : Value} (h : Cl w b k v) (u : Value) : Cl (w.setCell ⟨b, k, none⟩ u) b k u :=
  ⟨sc_same h.c, sc_frozen.trans h.f, by simpa using h.lt⟩
theorem Cl.oth {w : World} {b k b' k' : Nat} {v : Value} (h : Cl w b k v) (hne : b' ≠ b ∨ k' ≠ k) (u : Value) : Cl (w.setCell ⟨b', k', none⟩ u) b k v :=
  ⟨(sc_other (by intro e; simp only [Addr.mk.injEq] at e; omega)).trans h.c, sc_frozen.trans h.f, by simpa using h.lt⟩
/-- a block with these cells -/
def Bx (w : World) (b : Nat) (cs : List Value) : Prop := ∀ k v, cs[k]? = some v → Cl w b k v
theorem Bx.at {w w' : World} {b : Nat} {cs : List Value} (h : Bx w b cs) (hb : Below w.heap.size w w') : Bx w' b cs := fun k v hk => (h k v hk).at hb
theorem Bx.bel {w w' : World} {b B : Nat} {cs : List Value} (h : Bx w b cs) (hB : b < B) (hb : Below B w w') : Bx w' b cs := fun k v hk => (h k v hk).bel hB hb
theorem Bx.gb {w w' : World} {b : Nat} {cs : List Value} {r : Option Nat} (h : Bx w b cs) (hg : w.grownBy w' r) (hn : some b ≠ r) : Bx w' b cs := fun k v hk => (h k v hk).gb hg hn
theorem Bx.new (w : World) (cs : List Value) (t : TypeId) {N : Nat} (hN : N = w.heap.size) : Bx (w.alloc (.cells cs.toArray t)) N cs := fun k v hk => Cl.new _ t k v hN (by simpa using hk)
theorem Bx.set {w : World} {b i : Nat} {cs : List Value} (h : Bx w b cs) (hi : i < cs.length) (u : Value) : Bx (w.setCell ⟨b, i, none⟩ u) b (cs.set i u) := fun k v hk => by
  by_cases c : i = k
  · subst c
    rw [List.getElem?_set_self hi] at hk
    cases hk
    obtain ⟨z, hz⟩ : ∃ z, cs[i]? = some z := ⟨_, List.getElem?_eq_getElem hi⟩
    exact (h i z hz).set _
  · rw [List.getElem?_set_ne c] at hk
    exact (h k v hk).oth (.inr c) _
theorem Bx.oth {w : World} {b b' k : Nat} {cs : List Value} (h : Bx w b cs) (hne : b' ≠ b) (u : Value) : Bx (w.setCell ⟨b', k, none⟩ u) b cs := fun j v hj => (h j v hj).oth (.inl hne) _

/-! ### bytes -/
def bc (t : By) : List Value := t.map fun b => Value.int .u8 (b.toNat : Int)
theorem bc_len (t : By) : (bc t).length = t.length := by simp [bc]
theorem bc_app (s t : By) : bc (s ++ t) = bc s ++ bc t := by simp [bc]
theorem bc_one (s : By) : ∀ u ∈ bc s, u.oneCell' = true := by
  intro u hu
  simp only [bc, List.mem_map] at hu
  obtain ⟨b, _, rfl⟩ := hu
  rfl
theorem bc_str (s : By) : Lib.strCells (tx s) = bc s := rfl
theorem bc_get {t : By} {i : Nat} {c : UInt8} (h : t[i]? = some c) : (bc t)[i]? = some (.int .u8 (c.toNat : Int)) := by simp [bc, h]
theorem infoU : (Try.prog.info? 5).map (fun i => (i.zero, i.size, i.bytes)) = some (some (.int .u8 0), 1, 1) := by kernel_rfl

/-- bytes of one's own: in a block from base on, other than R -/
def OB (w : World) (base R : Nat) (v : Value) (t : By) : Prop :=
  (v = .slice none 0 0 ∧ t = []) ∨ ∃ g o cap cur, v = .slice (some ⟨g, o, none⟩) t.length cap ∧ base ≤ g ∧ g ≠ R ∧ w.heap[g]? = some (.cells cur 5 (0, 0)) ∧ t.length ≤ cap ∧ cap ≤ maxLen ∧ o + cap ≤ cur.size ∧ (cur.toList.drop o).take t.length = bc t
theorem OB.nil (w : World) (base R : Nat) : OB w base R (.slice none 0 0) [] := .inl ⟨rfl, rfl⟩
theorem OB.sl {w : World} {base R : Nat} {v : Value} {t : By} (h : OB w base R v t) : ∃ a c, v = .slice a t.length c ∧ t.length ≤ c ∧ c ≤ maxLen := by
  rcases h with ⟨rfl, rfl⟩ | ⟨g, o, cap, cur, rfl, h1, h2, h3, h4, h5, h6, h7⟩
  · exact ⟨_, _, rfl, Nat.le_refl _, Nat.zero_le _⟩
  · exact ⟨_, _, rfl, h4, h5⟩
theorem OB.own {w : World} {base R : Nat} {v : Value} {t : By} (h : OB w base R v t) : ∀ k, v.ownBlock = some k → base ≤ k ∧ k ≠ R ∧ k < w.heap.size := by
  intro k hk
  rcases h with ⟨rfl, rfl⟩ | ⟨g, o, cap, cur, rfl, h1, h2, h3, h4, h5, h6, h7⟩
  · cases hk
  · simp only [Value.ownBlock, Option.some.injEq] at hk
    subst hk
    exact ⟨h1, h2, (Array.getElem?_eq_some_iff.1 h3).1⟩
theorem OB.same {w w' : World} {base R : Nat} {v : Value} {t : By} (h : OB w base R v t) (hk : ∀ k, v.ownBlock = some k → w'.heap[k]? = w.heap[k]?) : OB w' base R v t := by
  rcases h with h | ⟨g, o, cap, cur, rfl, h1, h2, h3, h4⟩
  · exact .inl h
  · exact .inr ⟨g, o, cap, cur, rfl, h1, h2, (hk g rfl).trans h3, h4⟩
theorem OB.gb {w w' : World} {base R : Nat} {v : Value} {t : By} {r : Option Nat} (h : OB w base R v t) (hg : w.grownBy w' r) (hr : ∀ k, r = some k → v.ownBlock ≠ some k) : OB w' base R v t :=
  h.same fun k hk => hg.block k (h.own k hk).2.2 fun e => hr k e.symm hk
theorem OB.setR {w : World} {base R : Nat} {v : Value} {t : By} (h : OB w base R v t) (k : Nat) (u : Value) : OB (w.setCell ⟨R, k, none⟩ u) base R v t :=
  h.same fun g hg => Below.heap_setCell _ _ _ _ (by have := (h.own g hg).2.1; simpa using this)
theorem OB.cell {w : World} {base R : Nat} {a : Option Addr} {n c : Nat} {t : By} (h : OB w base R (.slice a n c) t) (ht : t ≠ []) : ∃ g o, a = some ⟨g, o, none⟩ ∧ n = t.length ∧ g < w.heap.size ∧ ∀ (i : Nat) (x : UInt8), t[i]? = some x → w.cell? ⟨g, o + i, none⟩ = some (.int .u8 (x.toNat : Int)) := by
  rcases h with ⟨e, h0⟩ | ⟨g, o, cap, cur, e, h1, h2, h3, h4, h5, h6, h7⟩
  · exact absurd h0 ht
  · simp only [Value.slice.injEq] at e
    obtain ⟨rfl, rfl, rfl⟩ := e
    refine ⟨g, o, rfl, rfl, (Array.getElem?_eq_some_iff.1 h3).1, fun i x hx => ?_⟩
    have hi : i < t.length := (List.getElem?_eq_some_iff.1 hx).1
    have h8 := bc_get hx
    rw [← h7, List.getElem?_take_of_lt hi, List.getElem?_drop] at h8
    simp [World.cell?, h3]
    simpa using h8
end Go.Proofs.Ytnoedkebmpfagaa
