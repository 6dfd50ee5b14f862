import Derived.Test.YtidfkencjdjkbaaGreatDoorRows
import Derived.WalkKit
import Derived.WalkSpells
import Derived.Deep.QuietTactic
import Derived.BigQuiet
import Derived.WalkSmall
import Derived.Laws.AppendOwn
import Derived.Deep.RegionHeld3
import Derived.Deep.AppendLies
import Derived.Maps.AppendAt
import Derived.Lib.ItoaNum
namespace Go.Proofs.YtidfkencjdjkbaaGreatDoor
open Go.RowKit

theorem bt {w w1 w2 : World} (h : Below w.heap.size w w1) (k : Below w1.heap.size w1 w2) : Below w.heap.size w w2 := h.trans (k.mono h.size)
theorem ba (w : World) (o : Obj) : Below w.heap.size w (w.alloc o) := (Below.refl _ _).alloc (Nat.le_refl _) o
theorem bs {w w1 : World} (h : Below w.heap.size w w1) {p : Addr} (hp : w.heap.size ≤ p.block) (u : Value) : Below w.heap.size w (w1.setCell p u) := h.setCell hp u
theorem bal {w w1 : World} (h : Below w.heap.size w w1) (o : Obj) : Below w.heap.size w (w1.alloc o) := h.alloc h.size o
theorem get_lt {α : Type} {l : List α} {i : Nat} (h : i < l.length) : ∃ x, l[i]? = some x := ⟨l[i], List.getElem?_eq_getElem h⟩
theorem ne_of_lt {α : Type} {l : List α} {i : Nat} (h : i < l.length) : l ≠ [] := by rintro rfl; simp at h
theorem sc_other {w : World} {a b : Addr} {v : Value} (h : a ≠ b) : (w.setCell a v).cell? b = w.cell? b := World.cell?_setCell_other _ _ _ _ h
theorem sc_same {w : World} {a : Addr} {u v : Value} (h : w.cell? a = some u) : (w.setCell a v).cell? a = some v := World.cell?_setCell_same _ _ _ h
theorem sc_frozen {w : World} {a b : Addr} {v : Value} : (w.setCell a v).frozen? b = w.frozen? b := World.frozen?_setCell _ _ _ _
theorem nc {w : World} {N : Nat} (cs : Array Value) (t : TypeId) (k : Nat) (x : Value) (hN : N = w.heap.size) (hx : cs[k]? = some x) : (w.alloc (.cells cs t)).cell? ⟨N, k, none⟩ = some x := by
  rw [World.cell?_alloc_at _ _ _ _ hN]; exact hx
theorem nf {w : World} {N : Nat} (cs : Array Value) (t : TypeId) (k : Nat) (hN : N = w.heap.size) : (w.alloc (.cells cs t)).frozen? ⟨N, k, none⟩ = false := World.frozen?_alloc_at _ _ _ _ hN
theorem gb_refl (w : World) (r : Option Nat) : w.grownBy w r := World.grownBy.refl w r
theorem gb_trans {a b c : World} {r : Option Nat} (h : a.grownBy b r) (k : b.grownBy c r) : a.grownBy c r :=
  ⟨k.os.trans h.os, k.tape.trans h.tape, k.output.trans h.output, Nat.le_trans h.size k.size, fun i hi hr => (k.block i (Nat.lt_of_lt_of_le hi h.size) hr).trans (h.block i hi hr)⟩
theorem gb_alloc {a b : World} {r : Option Nat} (h : a.grownBy b r) (o : Obj) : a.grownBy (b.alloc o) r := gb_trans h (World.grownBy_alloc b o r)
theorem gb_drew {a b : World} {r : Option Nat} (h : a.grownBy b r) : a.grownBy b.drew r := ⟨h.os, h.tape, h.output, h.size, h.block⟩
theorem gb_set {a b : World} {E : Nat} (h : a.grownBy b (some E)) (k : Nat) (u : Value) : a.grownBy (b.setCell ⟨E, k, none⟩ u) (some E) :=
  gb_trans h ⟨rfl, rfl, rfl, by simp [World.setCell], fun i _ hr => Below.heap_setCell _ _ _ _ (by intro e; exact hr (by rw [e]))⟩
theorem gb_new {a b : World} {r : Option Nat} (h : a.grownBy b r) {p : Addr} (hp : a.heap.size ≤ p.block) (u : Value) : a.grownBy (b.setCell p u) r :=
  ⟨h.os, h.tape, h.output, by simpa [World.setCell] using h.size, fun i hi hr => (Below.heap_setCell _ _ _ _ (by omega)).trans (h.block i hi hr)⟩
theorem gb_below {a b : World} {r : Option Nat} (h : Below a.heap.size a b) : a.grownBy b r := ⟨h.os, h.tape, h.output, h.size, fun k hk _ => h.block k hk⟩
theorem below_gb {a b : World} {E B : Nat} (h : a.grownBy b (some E)) (hB : B ≤ E) (hE : B ≤ a.heap.size) : Below B a b := ⟨h.os, h.tape, h.output, h.size, fun k hk => h.block k (by omega) (by simp; omega)⟩
/-- a block with two cells -/
structure TwoB (w : World) (R : Nat) (x y : Value) : Prop where
  c0 : w.cell? ⟨R, 0, none⟩ = some x
  c1 : w.cell? ⟨R, 1, none⟩ = some y
  f0 : w.frozen? ⟨R, 0, none⟩ = false
  f1 : w.frozen? ⟨R, 1, none⟩ = false
  lt : R < w.heap.size
theorem TwoB.below {w w' : World} {R : Nat} {x y : Value} (h : TwoB w R x y) (b : Below w.heap.size w w') : TwoB w' R x y :=
  ⟨(b.cell (p := ⟨R, 0, none⟩) h.lt).trans h.c0, (b.cell (p := ⟨R, 1, none⟩) h.lt).trans h.c1, (b.frozen (p := ⟨R, 0, none⟩) h.lt).trans h.f0, (b.frozen (p := ⟨R, 1, none⟩) h.lt).trans h.f1, Nat.lt_of_lt_of_le h.lt b.size⟩
theorem TwoB.new (w : World) (x y : Value) (t : TypeId) (N : Nat) (hN : N = w.heap.size) : TwoB (w.alloc (.cells #[x, y] t)) N x y :=
  ⟨nc _ _ 0 _ hN rfl, nc _ _ 1 _ hN rfl, nf _ _ 0 hN, nf _ _ 1 hN, by simp; omega⟩
theorem TwoB.put {w : World} {R : Nat} {x y : Value} (h : TwoB w R x y) (u v : Value) : TwoB ((w.setCell ⟨R, 0, none⟩ u).setCell ⟨R, 1, none⟩ v) R u v := by
  have h0 : TwoB (w.setCell ⟨R, 0, none⟩ u) R u y := ⟨sc_same h.c0, (sc_other (by simp)).trans h.c1, sc_frozen.trans h.f0, sc_frozen.trans h.f1, by simpa using h.lt⟩
  exact ⟨(sc_other (by simp)).trans h0.c0, sc_same h0.c1, sc_frozen.trans h0.f0, sc_frozen.trans h0.f1, by simpa using h0.lt⟩
theorem gb_none {w w' : World} (h : Below w.heap.size w w') : w.grownBy w' none := gb_below h
theorem TwoB.gb {w w' : World} {R : Nat} {x y : Value} {r : Option Nat} (h : TwoB w R x y) (hg : w.grownBy w' r) (hne : some R ≠ r) : TwoB w' R x y := by
  have hk : w'.heap[R]? = w.heap[R]? := hg.block R h.lt hne
  exact ⟨(World.cell?_of_block (w := w) (a := ⟨R, 0, none⟩) hk).trans h.c0, (World.cell?_of_block (w := w) (a := ⟨R, 1, none⟩) hk).trans h.c1, (World.frozen?_of_block (w := w) (a := ⟨R, 0, none⟩) hk).trans h.f0, (World.frozen?_of_block (w := w) (a := ⟨R, 1, none⟩) hk).trans h.f1, Nat.lt_of_lt_of_le h.lt hg.size⟩
theorem row_same {w w' : World} {base : Nat} {t : TypeId} {sz : Nat} {v : Value} {n : Nat} {xs : List Value} (h : w.ownsRow base t sz v n xs) (hk : ∀ g, v.ownBlock = some g → w'.heap[g]? = w.heap[g]?) : w'.ownsRow base t sz v n xs := by
  refine ⟨h.1, ?_⟩
  rcases h.2 with h0 | ⟨g, cap, cur, hv, hb, hc, h1, h2, h3, h4⟩
  · exact .inl h0
  · exact .inr ⟨g, cap, cur, hv, hb, (hk g (by rw [hv]; rfl)).trans hc, h1, h2, h3, h4⟩
theorem row_lt {w : World} {base : Nat} {t : TypeId} {sz : Nat} {v : Value} {n : Nat} {xs : List Value} (h : w.ownsRow base t sz v n xs) {g : Nat} (hg : v.ownBlock = some g) : base ≤ g ∧ g < w.heap.size := by
  rcases h.2 with ⟨rfl, _⟩ | ⟨g', cap, cur, rfl, hb, hc, _⟩
  · cases hg
  · simp only [Value.ownBlock, Option.some.injEq] at hg
    subst hg
    exact ⟨hb, (Array.getElem?_eq_some_iff.1 hc).1⟩
theorem row_slice {w : World} {base : Nat} {t : TypeId} {sz : Nat} {v : Value} {n : Nat} {xs : List Value} (h : w.ownsRow base t sz v n xs) : ∃ a c, v = .slice a n c := by
  rcases h.2 with ⟨rfl, rfl⟩ | ⟨g', cap, cur, rfl, _⟩
  · exact ⟨_, _, rfl⟩
  · exact ⟨_, _, rfl⟩
theorem row_gb {W W' : World} {m : Nat} {t : TypeId} {z : Nat} {v : Value} {n : Nat} {xs : List Value} {r : Option Nat} (h : W.ownsRow m t z v n xs) (hg : W.grownBy W' r) (hr : ∀ g, v.ownBlock = some g → r ≠ some g) : W'.ownsRow m t z v n xs :=
  row_same h fun g hg2 => hg.block g (row_lt h hg2).2 (fun e => hr g hg2 e.symm)
theorem row_low {W W' : World} {m P : Nat} {t : TypeId} {z : Nat} {v : Value} {n : Nat} {xs : List Value} (h : W.ownsRow m t z v n xs) (hg : W.grownBy W' (some P)) (hP : P < m) : W'.ownsRow m t z v n xs :=
  row_gb h hg fun g hg2 e => by have := (row_lt h hg2).1; simp only [Option.some.injEq] at e; omega
theorem row_cell {w : World} {base : Nat} {t : TypeId} {sz : Nat} {a : Option Addr} {n c : Nat} {xs : List Value} (h : w.ownsRow base t sz (.slice a n c) n xs) {j : Nat} {u : Value} (hj : xs[j]? = some u) :
    ∃ g, a = some ⟨g, 0, none⟩ ∧ base ≤ g ∧ g < w.heap.size ∧ w.cell? ⟨g, j, none⟩ = some u := by
  rcases h.2 with ⟨h1, h0⟩ | ⟨g, cap, cur, h1, h2, h3, h4, h5, h6, h7⟩
  · have := h.1
    rw [h0] at this
    obtain rfl : xs = [] := List.eq_nil_of_length_eq_zero (by omega)
    simp at hj
  · simp only [Value.slice.injEq] at h1
    refine ⟨g, h1.1, h2, (Array.getElem?_eq_some_iff.1 h3).1, ?_⟩
    have hlt : j < xs.length := (List.getElem?_eq_some_iff.1 hj).1
    rw [← h7, List.getElem?_take_of_lt (by rw [← h.1]; exact hlt)] at hj
    simp [World.cell?, h3]
    simpa using hj
theorem one_cells (w : World) (a : Value) (t : TypeId) (N : Nat) (hN : N = w.heap.size) : ∀ j u, [a][j]? = some u → (w.alloc (.cells #[a] t)).cell? ((⟨N, 0, none⟩ : Addr).add j) = some u := by
  subst hN
  exact fun j u hu => World.news_of_block (w := w.alloc (.cells #[a] t)) (B := w.heap.size) (cs := #[a]) (t := t) (fr := (0, 0)) (heap_alloc_new w _) j u (by simpa using hu)
theorem two_cells (w : World) (a b : Value) (t : TypeId) (N : Nat) (hN : N = w.heap.size) : ∀ j u, [a, b][j]? = some u → (w.alloc (.cells #[a, b] t)).cell? ((⟨N, 0, none⟩ : Addr).add j) = some u := by
  subst hN
  exact fun j u hu => World.news_of_block (w := w.alloc (.cells #[a, b] t)) (B := w.heap.size) (cs := #[a, b]) (t := t) (fr := (0, 0)) (heap_alloc_new w _) j u (by simpa using hu)
end Go.Proofs.YtidfkencjdjkbaaGreatDoor

/-
  CHAPTER 15's MATHEMATICS (1): questions, pieces, the grammar (Q1 to Q3) as a function on pieces.
-/
namespace Go.Proofs.YtidfkencjdjkbaaGreatDoor
namespace Sp

abbrev By := List UInt8
abbrev Tst := By × Int × Int
/-- a question: Kind, Column, Low, High, Where, how many kids; the first and the second of them -/
inductive Qu where
  | none
  | node (k : Int) (c : By) (lo hi : Int) (wh : List Tst) (n : Nat) (x y : Qu)

/-! ### words -/
abbrev sPlus : By := [43]
abbrev sMinus : By := [45]
abbrev sStar : By := [42]
abbrev sOpen : By := [40]
abbrev sShut : By := [41]
abbrev sLeft : By := [91]
abbrev sRight : By := [93]
abbrev sComma : By := [44]
abbrev sDots : By := [46, 46]
abbrev wCount : By := [99, 111, 117, 110, 116]
abbrev wSum : By := [115, 117, 109]
abbrev wBins : By := [98, 105, 110, 115]
abbrev wTotal : By := [116, 111, 116, 97, 108]
abbrev wJoin : By := [106, 111, 105, 110]
abbrev wClamp : By := [99, 108, 97, 109, 112]
abbrev wWhere : By := [119, 104, 101, 114, 101]
abbrev wAnd : By := [97, 110, 100]
abbrev wIn : By := [105, 110]
def owns : List By := [wCount, wSum, wBins, wTotal, wJoin, wClamp, wWhere, wAnd, wIn]
/-- the tests' signs, 1 to 6 -/
def sigs : List By := [[61], [60], [60, 61], [62], [62, 61], [60, 62]]

/-! ### letters, digits, signs -/
def letB (c : UInt8) : Bool := (decide (97 ≤ c.toNat) && decide (c.toNat ≤ 122)) || decide (c.toNat = 95)
def digB (c : UInt8) : Bool := decide (48 ≤ c.toNat) && decide (c.toNat ≤ 57)
def oneB (c : UInt8) : Bool := decide (c ∈ ([43, 45, 42, 40, 41, 91, 93, 44, 61, 60, 62] : By))
def twoB (s : By) : Bool := decide (s ∈ ([[46, 46], [60, 61], [62, 61], [60, 62]] : List By))
def runL (p : UInt8 → Bool) : By → Nat
  | [] => 0
  | c :: r => if p c then runL p r + 1 else 0
/-- how many bytes the piece has with which a text begins -/
def lonN : By → Nat
  | [] => 0
  | c :: r => if letB c then runL letB (c :: r) else if digB c then runL digB (c :: r) else if twoB ((c :: r).take 2) then 2 else if oneB c then 1 else 0
abbrev Pc := By × Nat
/-- the pieces, with their places; or the place of a byte that begins none -/
def cutF : Nat → By → Nat → Except Nat (List Pc)
  | 0, _, a => .ok [([], a)]
  | f + 1, s, a => match s with
    | [] => .ok [([], a)]
    | c :: r => if c = 32 ∨ c = 10 then cutF f r (a + 1)
      else if lonN (c :: r) = 0 then .error a
      else match cutF f ((c :: r).drop (lonN (c :: r))) (a + lonN (c :: r)) with
        | .ok ps => .ok (((c :: r).take (lonN (c :: r)), a) :: ps)
        | .error e => .error e
def cutT (s : By) (a : Nat) : Except Nat (List Pc) := cutF s.length s a

/-- a name -/
def namB (s : By) : Bool := decide (1 ≤ s.length) && decide (s.length ≤ 32) && s.all letB
def nmd (s : By) : Bool := namB s && !decide (s ∈ owns)
def valN (s : By) : Nat := s.foldl (fun n c => n * 10 + (c.toNat - 48)) 0

/-! ### the grammar -/
/-- what is read, and what is left; or what is wrong, and where -/
abbrev PR (α : Type) := Except (Int × Nat) (α × List Pc)
def hd (ps : List Pc) : By := match ps with
  | [] => []
  | p :: _ => p.1
def hat (ps : List Pc) : Nat := match ps with
  | [] => 0
  | p :: _ => p.2
def tk (t : By) (ps : List Pc) : PR Unit := if hd ps = t then .ok ((), ps.tail) else .error (2, hat ps)
def nmP (ps : List Pc) : PR By := if nmd (hd ps) = true then .ok (hd ps, ps.tail) else .error (2, hat ps)
def fstD (s : By) : Bool := match s with
  | [] => false
  | c :: _ => digB c
def zeroA (s : By) : Bool := match s with
  | c :: _ :: _ => decide (c = 48)
  | _ => false
def numP (ps : List Pc) : PR Int :=
  if fstD (hd ps) = true ∧ zeroA (hd ps) = false then (if valN (hd ps) ≤ 1048576 then .ok ((valN (hd ps) : Int), ps.tail) else .error (3, hat ps)) else .error (2, hat ps)
def sgnP (ps : List Pc) : PR Int :=
  if hd ps = sMinus then (if hd ps.tail = [48] then .error (2, hat ps.tail) else match numP ps.tail with
    | .ok (n, r) => .ok (-n, r)
    | .error e => .error e)
  else numP ps
def spnP (ps : List Pc) : PR (Int × Int) := match sgnP ps with
  | .error e => .error e
  | .ok (a, r) => match tk sDots r with
    | .error e => .error e
    | .ok (_, r) => match sgnP r with
      | .error e => .error e
      | .ok (b, r) => .ok ((a, b), r)
/-- the number of a test's sign; 0: none -/
def dng (s : By) : Nat := if s ∈ sigs then sigs.idxOf s + 1 else 0
def tstP (ps : List Pc) : PR Tst := match nmP ps with
  | .error e => .error e
  | .ok (c, r) => if dng (hd r) = 0 then .error (2, hat r) else match sgnP r.tail with
    | .error e => .error e
    | .ok (v, r') => .ok ((c, (dng (hd r) : Int), v), r')
def andL : Nat → List Tst → List Pc → PR (List Tst)
  | k, l, ps => if hd ps = wAnd then (match k with
      | 0 => .error (4, hat ps)
      | k + 1 => match tstP ps.tail with
        | .error e => .error e
        | .ok (t, r) => andL k (l ++ [t]) r)
    else .ok (l, ps)
def whrP (ps : List Pc) : PR (List Tst) := if hd ps = wWhere then (match tstP ps.tail with
    | .error e => .error e
    | .ok (t, r) => andL 63 [t] r)
  else .ok ([], ps)
/-- a question in brackets -/
def brkP (q : List Pc → PR Qu) (ps : List Pc) : PR Qu := match tk sOpen ps with
  | .error e => .error e
  | .ok (_, r) => match q r with
    | .error e => .error e
    | .ok (a, r) => match tk sShut r with
      | .error e => .error e
      | .ok (_, r) => .ok (a, r)
def bthP (q : List Pc → PR Qu) (ps : List Pc) : PR (Qu × Qu) := match tk sOpen ps with
  | .error e => .error e
  | .ok (_, r) => match q r with
    | .error e => .error e
    | .ok (a, r) => match tk sComma r with
      | .error e => .error e
      | .ok (_, r) => match q r with
        | .error e => .error e
        | .ok (b, r) => match tk sShut r with
          | .error e => .error e
          | .ok (_, r) => .ok ((a, b), r)
def kndN (s : By) : Nat := if s = wCount then 1 else if s = wSum then 2 else if s = wBins then 3 else if s = wTotal then 8 else if s = wJoin then 7 else if s = wClamp then 10 else 0
def thgP (q : List Pc → PR Qu) (ps : List Pc) : PR Qu :=
  if hd ps = sOpen then brkP q ps
  else if hd ps = wCount then (match whrP ps.tail with
    | .error e => .error e
    | .ok (l, r) => .ok (.node 1 [] 0 0 l 0 .none .none, r))
  else if hd ps = wBins then (match nmP ps.tail with
    | .error e => .error e
    | .ok (c, r) => match whrP r with
      | .error e => .error e
      | .ok (l, r) => .ok (.node 3 c 0 0 l 0 .none .none, r))
  else if hd ps = wSum then (match nmP ps.tail with
    | .error e => .error e
    | .ok (c, r) => match tk wIn r with
      | .error e => .error e
      | .ok (_, r) => match spnP r with
        | .error e => .error e
        | .ok (ab, r) => match whrP r with
          | .error e => .error e
          | .ok (l, r) => .ok (.node 2 c ab.1 ab.2 l 0 .none .none, r))
  else if hd ps = wTotal then (match brkP q ps.tail with
    | .error e => .error e
    | .ok (a, r) => .ok (.node 8 [] 0 0 [] 1 a .none, r))
  else if hd ps = wClamp then (match spnP ps.tail with
    | .error e => .error e
    | .ok (ab, r) => match brkP q r with
      | .error e => .error e
      | .ok (a, r) => .ok (.node 10 [] ab.1 ab.2 [] 1 a .none, r))
  else if hd ps = wJoin then (match bthP q ps.tail with
    | .error e => .error e
    | .ok (ab, r) => .ok (.node 7 [] 0 0 [] 2 ab.1 ab.2, r))
  else .error (2, hat ps)
def pikL : Nat → Qu → List Pc → PR Qu
  | k, a, ps => if hd ps = sLeft then (match k with
      | 0 => .error (4, hat ps)
      | k + 1 => match numP ps.tail with
        | .error e => .error e
        | .ok (n, r) => match tk sRight r with
          | .error e => .error e
          | .ok (_, r) => pikL k (.node 9 [] n 0 [] 1 a .none) r)
    else .ok (a, ps)
def sumL (p : List Pc → PR Qu) : Nat → Qu → List Pc → PR Qu
  | k, a, ps => if hd ps = sPlus ∨ hd ps = sMinus then (match k with
      | 0 => .error (4, hat ps)
      | k + 1 => match p ps.tail with
        | .error e => .error e
        | .ok (b, r) => sumL p k (.node (if hd ps = sPlus then 4 else 5) [] 0 0 [] 2 a b) r)
    else .ok (a, ps)
def pikP (q : List Pc → PR Qu) (n : Nat) (ps : List Pc) : PR Qu := match thgP q ps with
  | .error e => .error e
  | .ok (a, r) => pikL n a r
def qusP (p : List Pc → PR Qu) (n : Nat) (ps : List Pc) : PR Qu := match p ps with
  | .error e => .error e
  | .ok (a, r) => sumL p n a r
/-- a product, of which so many levels are left -/
def prdP : Nat → List Pc → PR Qu
  | 0, ps => .error (4, hat ps)
  | k + 1, ps => if hd ps = sMinus ∨ fstD (hd ps) = true then (match sgnP ps with
      | .error e => .error e
      | .ok (n, r) => match tk sStar r with
        | .error e => .error e
        | .ok (_, r) => match prdP k r with
          | .error e => .error e
          | .ok (a, r) => .ok (.node 6 [] n 0 [] 1 a .none, r))
    else pikP (qusP (prdP k) 64) 64 ps
def qusK (k : Nat) (ps : List Pc) : PR Qu := qusP (prdP k) 64 ps
/-- Read -/
def readT (s : By) : Except (Int × Nat) Qu :=
  if 65536 < s.length then .error (4, 0) else match cutT s 0 with
  | .error a => .error (2, a)
  | .ok ps => match qusK 64 ps with
    | .error e => .error e
    | .ok (a, r) => if hd r = [] then .ok a else .error (2, hat r)
end Sp
end Go.Proofs.YtidfkencjdjkbaaGreatDoor
