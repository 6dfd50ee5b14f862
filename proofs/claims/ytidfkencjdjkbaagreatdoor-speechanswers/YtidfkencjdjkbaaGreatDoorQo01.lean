import Derived.Test.YtidfkencjdjkbaaGreatDoorRows
import Derived.WalkKit
import Derived.WalkSpells
import Derived.Deep.QuietTactic
import Derived.BigQuiet
import Derived.WalkSmall
import Derived.Laws.AppendOwn
import Derived.Deep.RegionHeld3
import Derived.Deep.AppendLies
import Derived.Maps.AppendAt
import Derived.Lib.ItoaNum
namespace Go.Proofs.YtidfkencjdjkbaaGreatDoor
open Go.RowKit

theorem bt {w w1 w2 : World} (h : Below w.heap.size w w1) (k : Below w1.heap.size w1 w2) : Below w.heap.size w w2 := h.trans (k.mono h.size)
theorem ba (w : World) (o : Obj) : Below w.heap.size w (w.alloc o) := (Below.refl _ _).alloc (Nat.le_refl _) o
theorem bs {w w1 : World} (h : Below w.heap.size w w1) {p : Addr} (hp : w.heap.size ≤ p.block) (u : Value) : Below w.heap.size w (w1.setCell p u) := h.setCell hp u
theorem bal {w w1 : World} (h : Below w.heap.size w w1) (o : Obj) : Below w.heap.size w (w1.alloc o) := h.alloc h.size o
theorem sc_other {w : World} {a b : Addr} {v : Value} (h : a ≠ b) : (w.setCell a v).cell? b = w.cell? b := World.cell?_setCell_other _ _ _ _ h
theorem sc_same {w : World} {a : Addr} {u v : Value} (h : w.cell? a = some u) : (w.setCell a v).cell? a = some v := World.cell?_setCell_same _ _ _ h
theorem sc_frozen {w : World} {a b : Addr} {v : Value} : (w.setCell a v).frozen? b = w.frozen? b := World.frozen?_setCell _ _ _ _
theorem nc {w : World} {N : Nat} (cs : Array Value) (t : TypeId) (k : Nat) (x : Value) (hN : N = w.heap.size) (hx : cs[k]? = some x) : (w.alloc (.cells cs t)).cell? ⟨N, k, none⟩ = some x := by
  rw [World.cell?_alloc_at _ _ _ _ hN]; exact hx
theorem nf {w : World} {N : Nat} (cs : Array Value) (t : TypeId) (k : Nat) (hN : N = w.heap.size) : (w.alloc (.cells cs t)).frozen? ⟨N, k, none⟩ = false := World.frozen?_alloc_at _ _ _ _ hN
theorem gb_refl (w : World) (r : Option Nat) : w.grownBy w r := World.grownBy.refl w r
theorem gb_trans {a b c : World} {r : Option Nat} (h : a.grownBy b r) (k : b.grownBy c r) : a.grownBy c r :=
  ⟨k.os.trans h.os, k.tape.trans h.tape, k.output.trans h.output, Nat.le_trans h.size k.size, fun i hi hr => (k.block i (Nat.lt_of_lt_of_le hi h.size) hr).trans (h.block i hi hr)⟩
theorem gb_alloc {a b : World} {r : Option Nat} (h : a.grownBy b r) (o : Obj) : a.grownBy (b.alloc o) r := gb_trans h (World.grownBy_alloc b o r)
theorem gb_set {a b : World} {E : Nat} (h : a.grownBy b (some E)) (k : Nat) (u : Value) : a.grownBy (b.setCell ⟨E, k, none⟩ u) (some E) :=
  gb_trans h ⟨rfl, rfl, rfl, by simp [World.setCell], fun i _ hr => Below.heap_setCell _ _ _ _ (by intro e; exact hr (by rw [e]))⟩
theorem gb_new {a b : World} {r : Option Nat} (h : a.grownBy b r) {p : Addr} (hp : a.heap.size ≤ p.block) (u : Value) : a.grownBy (b.setCell p u) r :=
  ⟨h.os, h.tape, h.output, by simpa [World.setCell] using h.size, fun i hi hr => (Below.heap_setCell _ _ _ _ (by omega)).trans (h.block i hi hr)⟩
theorem gb_below {a b : World} {r : Option Nat} (h : Below a.heap.size a b) : a.grownBy b r := ⟨h.os, h.tape, h.output, h.size, fun k hk _ => h.block k hk⟩
theorem below_gb {a b : World} {E B : Nat} (h : a.grownBy b (some E)) (hB : B ≤ E) (hE : B ≤ a.heap.size) : Below B a b := ⟨h.os, h.tape, h.output, h.size, fun k hk => h.block k (by omega) (by simp; omega)⟩
theorem gb_none {w w' : World} (h : Below w.heap.size w w') : w.grownBy w' none := gb_below h
theorem row_same {w w' : World} {base : Nat} {t : TypeId} {sz : Nat} {v : Value} {n : Nat} {xs : List Value} (h : w.ownsRow base t sz v n xs) (hk : ∀ g, v.ownBlock = some g → w'.heap[g]? = w.heap[g]?) : w'.ownsRow base t sz v n xs := by
  refine ⟨h.1, ?_⟩
  rcases h.2 with h0 | ⟨g, cap, cur, hv, hb, hc, h1, h2, h3, h4⟩
  · exact .inl h0
  · exact .inr ⟨g, cap, cur, hv, hb, (hk g (by rw [hv]; rfl)).trans hc, h1, h2, h3, h4⟩
theorem row_lt {w : World} {base : Nat} {t : TypeId} {sz : Nat} {v : Value} {n : Nat} {xs : List Value} (h : w.ownsRow base t sz v n xs) {g : Nat} (hg : v.ownBlock = some g) : base ≤ g ∧ g < w.heap.size := by
  rcases h.2 with ⟨rfl, _⟩ | ⟨g', cap, cur, rfl, hb, hc, _⟩
  · cases hg
  · simp only [Value.ownBlock, Option.some.injEq] at hg
    subst hg
    exact ⟨hb, (Array.getElem?_eq_some_iff.1 hc).1⟩
theorem row_slice {w : World} {base : Nat} {t : TypeId} {sz : Nat} {v : Value} {n : Nat} {xs : List Value} (h : w.ownsRow base t sz v n xs) : ∃ a c, v = .slice a n c := by
  rcases h.2 with ⟨rfl, rfl⟩ | ⟨g', cap, cur, rfl, _⟩
  · exact ⟨_, _, rfl⟩
  · exact ⟨_, _, rfl⟩
theorem row_gb {W W' : World} {m : Nat} {t : TypeId} {z : Nat} {v : Value} {n : Nat} {xs : List Value} {r : Option Nat} (h : W.ownsRow m t z v n xs) (hg : W.grownBy W' r) (hr : ∀ g, v.ownBlock = some g → r ≠ some g) : W'.ownsRow m t z v n xs :=
  row_same h fun g hg2 => hg.block g (row_lt h hg2).2 (fun e => hr g hg2 e.symm)
theorem row_cell {w : World} {base : Nat} {t : TypeId} {sz : Nat} {a : Option Addr} {n c : Nat} {xs : List Value} (h : w.ownsRow base t sz (.slice a n c) n xs) {j : Nat} {u : Value} (hj : xs[j]? = some u) :
    ∃ g, a = some ⟨g, 0, none⟩ ∧ base ≤ g ∧ g < w.heap.size ∧ w.cell? ⟨g, j, none⟩ = some u := by
  rcases h.2 with ⟨h1, h0⟩ | ⟨g, cap, cur, h1, h2, h3, h4, h5, h6, h7⟩
  · have := h.1
    rw [h0] at this
    obtain rfl : xs = [] := List.eq_nil_of_length_eq_zero (by omega)
    simp at hj
  · simp only [Value.slice.injEq] at h1
    refine ⟨g, h1.1, h2, (Array.getElem?_eq_some_iff.1 h3).1, ?_⟩
    have hlt : j < xs.length := (List.getElem?_eq_some_iff.1 hj).1
    rw [← h7, List.getElem?_take_of_lt (by rw [← h.1]; exact hlt)] at hj
    simp [World.cell?, h3]
    simpa using hj
theorem two_cells (w : World) (a b : Value) (t : TypeId) (N : Nat) (hN : N = w.heap.size) : ∀ j u, [a, b][j]? = some u → (w.alloc (.cells #[a, b] t)).cell? ((⟨N, 0, none⟩ : Addr).add j) = some u := by
  subst hN
  exact fun j u hu => World.news_of_block (w := w.alloc (.cells #[a, b] t)) (B := w.heap.size) (cs := #[a, b]) (t := t) (fr := (0, 0)) (heap_alloc_new w _) j u (by simpa using hu)
end Go.Proofs.YtidfkencjdjkbaaGreatDoor

/-
  CHAPTER 15's MATHEMATICS (1): questions, pieces, the grammar (Q1 to Q3) as a function on pieces.
-/
namespace Go.Proofs.YtidfkencjdjkbaaGreatDoor
namespace Sp

abbrev By := List UInt8
abbrev Tst := By × Int × Int
/-- a question: Kind, Column, Low, High, Where, how many kids; the first and the second of them -/
inductive Qu where
  | none
  | node (k : Int) (c : By) (lo hi : Int) (wh : List Tst) (n : Nat) (x y : Qu)

/-! ### words -/
abbrev sPlus : By := [43]
abbrev sMinus : By := [45]
abbrev sStar : By := [42]
abbrev sOpen : By := [40]
abbrev sShut : By := [41]
abbrev sLeft : By := [91]
abbrev sRight : By := [93]
abbrev sComma : By := [44]
abbrev sDots : By := [46, 46]
abbrev wCount : By := [99, 111, 117, 110, 116]
abbrev wSum : By := [115, 117, 109]
abbrev wBins : By := [98, 105, 110, 115]
abbrev wTotal : By := [116, 111, 116, 97, 108]
abbrev wJoin : By := [106, 111, 105, 110]
abbrev wClamp : By := [99, 108, 97, 109, 112]
abbrev wWhere : By := [119, 104, 101, 114, 101]
abbrev wAnd : By := [97, 110, 100]
abbrev wIn : By := [105, 110]
def owns : List By := [wCount, wSum, wBins, wTotal, wJoin, wClamp, wWhere, wAnd, wIn]
/-- the tests' signs, 1 to 6 -/
def sigs : List By := [[61], [60], [60, 61], [62], [62, 61], [60, 62]]

/-! ### letters, digits, signs -/
def letB (c : UInt8) : Bool := (decide (97 ≤ c.toNat) && decide (c.toNat ≤ 122)) || decide (c.toNat = 95)
def digB (c : UInt8) : Bool := decide (48 ≤ c.toNat) && decide (c.toNat ≤ 57)
def oneB (c : UInt8) : Bool := decide (c ∈ ([43, 45, 42, 40, 41, 91, 93, 44, 61, 60, 62] : By))
def twoB (s : By) : Bool := decide (s ∈ ([[46, 46], [60, 61], [62, 61], [60, 62]] : List By))
def runL (p : UInt8 → Bool) : By → Nat
  | [] => 0
  | c :: r => if p c then runL p r + 1 else 0
/-- how many bytes the piece has with which a text begins -/
def lonN : By → Nat
  | [] => 0
  | c :: r => if letB c then runL letB (c :: r) else if digB c then runL digB (c :: r) else if twoB ((c :: r).take 2) then 2 else if oneB c then 1 else 0
abbrev Pc := By × Nat
/-- the pieces, with their places; or the place of a byte that begins none -/
def cutF : Nat → By → Nat → Except Nat (List Pc)
  | 0, _, a => .ok [([], a)]
  | f + 1, s, a => match s with
    | [] => .ok [([], a)]
    | c :: r => if c = 32 ∨ c = 10 then cutF f r (a + 1)
      else if lonN (c :: r) = 0 then .error a
      else match cutF f ((c :: r).drop (lonN (c :: r))) (a + lonN (c :: r)) with
        | .ok ps => .ok (((c :: r).take (lonN (c :: r)), a) :: ps)
        | .error e => .error e
def cutT (s : By) (a : Nat) : Except Nat (List Pc) := cutF s.length s a

/-- a name -/
def namB (s : By) : Bool := decide (1 ≤ s.length) && decide (s.length ≤ 32) && s.all letB
def nmd (s : By) : Bool := namB s && !decide (s ∈ owns)
def valN (s : By) : Nat := s.foldl (fun n c => n * 10 + (c.toNat - 48)) 0

/-! ### the grammar -/
/-- what is read, and what is left; or what is wrong, and where -/
abbrev PR (α : Type) := Except (Int × Nat) (α × List Pc)
def hd (ps : List Pc) : By := match ps with
  | [] => []
  | p :: _ => p.1
def hat (ps : List Pc) : Nat := match ps with
  | [] => 0
  | p :: _ => p.2
def tk (t : By) (ps : List Pc) : PR Unit := if hd ps = t then .ok ((), ps.tail) else .error (2, hat ps)
def nmP (ps : List Pc) : PR By := if nmd (hd ps) = true then .ok (hd ps, ps.tail) else .error (2, hat ps)
def fstD (s : By) : Bool := match s with
  | [] => false
  | c :: _ => digB c
def zeroA (s : By) : Bool := match s with
  | c :: _ :: _ => decide (c = 48)
  | _ => false
def numP (ps : List Pc) : PR Int :=
  if fstD (hd ps) = true ∧ zeroA (hd ps) = false then (if valN (hd ps) ≤ 1048576 then .ok ((valN (hd ps) : Int), ps.tail) else .error (3, hat ps)) else .error (2, hat ps)
def sgnP (ps : List Pc) : PR Int :=
  if hd ps = sMinus then (if hd ps.tail = [48] then .error (2, hat ps.tail) else match numP ps.tail with
    | .ok (n, r) => .ok (-n, r)
    | .error e => .error e)
  else numP ps
def spnP (ps : List Pc) : PR (Int × Int) := match sgnP ps with
  | .error e => .error e
  | .ok (a, r) => match tk sDots r with
    | .error e => .error e
    | .ok (_, r) => match sgnP r with
      | .error e => .error e
      | .ok (b, r) => .ok ((a, b), r)
/-- the number of a test's sign; 0: none -/
def dng (s : By) : Nat := if s ∈ sigs then sigs.idxOf s + 1 else 0
def tstP (ps : List Pc) : PR Tst := match nmP ps with
  | .error e => .error e
  | .ok (c, r) => if dng (hd r) = 0 then .error (2, hat r) else match sgnP r.tail with
    | .error e => .error e
    | .ok (v, r') => .ok ((c, (dng (hd r) : Int), v), r')
def andL : Nat → List Tst → List Pc → PR (List Tst)
  | k, l, ps => if hd ps = wAnd then (match k with
      | 0 => .error (4, hat ps)
      | k + 1 => match tstP ps.tail with
        | .error e => .error e
        | .ok (t, r) => andL k (l ++ [t]) r)
    else .ok (l, ps)
def whrP (ps : List Pc) : PR (List Tst) := if hd ps = wWhere then (match tstP ps.tail with
    | .error e => .error e
    | .ok (t, r) => andL 63 [t] r)
  else .ok ([], ps)
/-- a question in brackets -/
def brkP (q : List Pc → PR Qu) (ps : List Pc) : PR Qu := match tk sOpen ps with
  | .error e => .error e
  | .ok (_, r) => match q r with
    | .error e => .error e
    | .ok (a, r) => match tk sShut r with
      | .error e => .error e
      | .ok (_, r) => .ok (a, r)
def bthP (q : List Pc → PR Qu) (ps : List Pc) : PR (Qu × Qu) := match tk sOpen ps with
  | .error e => .error e
  | .ok (_, r) => match q r with
    | .error e => .error e
    | .ok (a, r) => match tk sComma r with
      | .error e => .error e
      | .ok (_, r) => match q r with
        | .error e => .error e
        | .ok (b, r) => match tk sShut r with
          | .error e => .error e
          | .ok (_, r) => .ok ((a, b), r)
def kndN (s : By) : Nat := if s = wCount then 1 else if s = wSum then 2 else if s = wBins then 3 else if s = wTotal then 8 else if s = wJoin then 7 else if s = wClamp then 10 else 0
def thgP (q : List Pc → PR Qu) (ps : List Pc) : PR Qu :=
  if hd ps = sOpen then brkP q ps
  else if hd ps = wCount then (match whrP ps.tail with
    | .error e => .error e
    | .ok (l, r) => .ok (.node 1 [] 0 0 l 0 .none .none, r))
  else if hd ps = wBins then (match nmP ps.tail with
    | .error e => .error e
    | .ok (c, r) => match whrP r with
      | .error e => .error e
      | .ok (l, r) => .ok (.node 3 c 0 0 l 0 .none .none, r))
  else if hd ps = wSum then (match nmP ps.tail with
    | .error e => .error e
    | .ok (c, r) => match tk wIn r with
      | .error e => .error e
      | .ok (_, r) => match spnP r with
        | .error e => .error e
        | .ok (ab, r) => match whrP r with
          | .error e => .error e
          | .ok (l, r) => .ok (.node 2 c ab.1 ab.2 l 0 .none .none, r))
  else if hd ps = wTotal then (match brkP q ps.tail with
    | .error e => .error e
    | .ok (a, r) => .ok (.node 8 [] 0 0 [] 1 a .none, r))
  else if hd ps = wClamp then (match spnP ps.tail with
    | .error e => .error e
    | .ok (ab, r) => match brkP q r with
      | .error e => .error e
      | .ok (a, r) => .ok (.node 10 [] ab.1 ab.2 [] 1 a .none, r))
  else if hd ps = wJoin then (match bthP q ps.tail with
    | .error e => .error e
    | .ok (ab, r) => .ok (.node 7 [] 0 0 [] 2 ab.1 ab.2, r))
  else .error (2, hat ps)
def pikL : Nat → Qu → List Pc → PR Qu
  | k, a, ps => if hd ps = sLeft then (match k with
      | 0 => .error (4, hat ps)
      | k + 1 => match numP ps.tail with
        | .error e => .error e
        | .ok (n, r) => match tk sRight r with
          | .error e => .error e
          | .ok (_, r) => pikL k (.node 9 [] n 0 [] 1 a .none) r)
    else .ok (a, ps)
def sumL (p : List Pc → PR Qu) : Nat → Qu → List Pc → PR Qu
  | k, a, ps => if hd ps = sPlus ∨ hd ps = sMinus then (match k with
      | 0 => .error (4, hat ps)
      | k + 1 => match p ps.tail with
        | .error e => .error e
        | .ok (b, r) => sumL p k (.node (if hd ps = sPlus then 4 else 5) [] 0 0 [] 2 a b) r)
    else .ok (a, ps)
def pikP (q : List Pc → PR Qu) (n : Nat) (ps : List Pc) : PR Qu := match thgP q ps with
  | .error e => .error e
  | .ok (a, r) => pikL n a r
def qusP (p : List Pc → PR Qu) (n : Nat) (ps : List Pc) : PR Qu := match p ps with
  | .error e => .error e
  | .ok (a, r) => sumL p n a r
/-- a product, of which so many levels are left -/
def prdP : Nat → List Pc → PR Qu
  | 0, ps => .error (4, hat ps)
  | k + 1, ps => if hd ps = sMinus ∨ fstD (hd ps) = true then (match sgnP ps with
      | .error e => .error e
      | .ok (n, r) => match tk sStar r with
        | .error e => .error e
        | .ok (_, r) => match prdP k r with
          | .error e => .error e
          | .ok (a, r) => .ok (.node 6 [] n 0 [] 1 a .none, r))
    else pikP (qusP (prdP k) 64) 64 ps
def qusK (k : Nat) (ps : List Pc) : PR Qu := qusP (prdP k) 64 ps
/-- Read -/
def readT (s : By) : Except (Int × Nat) Qu :=
  if 65536 < s.length then .error (4, 0) else match cutT s 0 with
  | .error a => .error (2, a)
  | .ok ps => match qusK 64 ps with
    | .error e => .error e
    | .ok (a, r) => if hd r = [] then .ok a else .error (2, hat r)
end Sp
end Go.Proofs.YtidfkencjdjkbaaGreatDoor

/-
  CHAPTER 15's MATHEMATICS (2): what is said is heard, in pieces (Q4 against Q2).
-/
namespace Go.Proofs.YtidfkencjdjkbaaGreatDoor
namespace Sp
open Go.Lib (decDigits itoa)

/-! ### numbers -/
theorem decDigits_step (u : Nat) : decDigits u = if u < 10 then [UInt8.ofNat (48 + u)] else decDigits (u / 10) ++ [UInt8.ofNat (48 + u % 10)] := by
  by_cases h : u < 10
  · rw [if_pos h, decDigits, dif_pos h]
  · rw [if_neg h]
    conv => lhs; rw [decDigits, dif_neg h]
theorem digB_of {d : Nat} (h : d < 10) : digB (UInt8.ofNat (48 + d)) = true ∧ (UInt8.ofNat (48 + d)).toNat = 48 + d := by
  have h1 : (UInt8.ofNat (48 + d)).toNat = 48 + d := by
    rw [UInt8.toNat_ofNat']; omega
  refine ⟨?_, h1⟩
  unfold digB
  rw [h1]
  simp; omega
theorem decDigits_all (u : Nat) : ∀ c ∈ decDigits u, digB c = true := by
  induction u using Nat.strongRecOn with
  | _ u ih =>
    rw [decDigits_step]
    by_cases h : u < 10
    · rw [if_pos h]; intro c hc; rw [List.mem_singleton] at hc; subst hc; exact (digB_of h).1
    · rw [if_neg h]
      intro c hc
      simp only [List.mem_append, List.mem_singleton] at hc
      rcases hc with hc | rfl
      · exact ih (u / 10) (by omega) c hc
      · exact (digB_of (by omega)).1
theorem valN_snoc (s : By) (c : UInt8) : valN (s ++ [c]) = valN s * 10 + (c.toNat - 48) := by simp [valN]
theorem valN_dec (u : Nat) : valN (decDigits u) = u := by
  induction u using Nat.strongRecOn with
  | _ u ih =>
    rw [decDigits_step]
    by_cases h : u < 10
    · rw [if_pos h]; simp only [valN, List.foldl_cons, List.foldl_nil]; rw [(digB_of h).2]; omega
    · rw [if_neg h, valN_snoc, ih (u / 10) (by omega), (digB_of (d := u % 10) (by omega)).2]; omega
theorem decDigits_ne (u : Nat) : decDigits u ≠ [] := by
  rw [decDigits_step]; split <;> simp
theorem decDigits_head (u : Nat) : u ≠ 0 → ∀ c r, decDigits u = c :: r → c ≠ 48 := by
  induction u using Nat.strongRecOn with
  | _ u ih =>
    intro h0 c r hc
    rw [decDigits_step] at hc
    by_cases h : u < 10
    · rw [if_pos h] at hc
      simp only [List.cons.injEq] at hc
      obtain ⟨rfl, _⟩ := hc
      intro e
      have := (digB_of h).2
      rw [e] at this
      have h48 : (48 : UInt8).toNat = 48 := rfl
      omega
    · rw [if_neg h] at hc
      cases hd : decDigits (u / 10) with
      | nil => exact absurd hd (decDigits_ne _)
      | cons d q =>
        rw [hd] at hc
        simp only [List.cons_append, List.cons.injEq] at hc
        obtain ⟨rfl, _⟩ := hc
        exact ih (u / 10) (by omega) (by omega) _ _ hd
theorem fstD_dec (u : Nat) : fstD (decDigits u) = true := by
  cases h : decDigits u with
  | nil => exact absurd h (decDigits_ne u)
  | cons c r => exact decDigits_all u c (by rw [h]; simp)
theorem zeroA_dec (u : Nat) : zeroA (decDigits u) = false := by
  by_cases h0 : u = 0
  · subst h0; rw [decDigits_step]; rfl
  · cases h : decDigits u with
    | nil => exact absurd h (decDigits_ne u)
    | cons c r =>
      cases r with
      | nil => rfl
      | cons d r => simp only [zeroA]; simpa using decDigits_head u h0 _ _ h
theorem dec_ne_zero {u : Nat} (h : u ≠ 0) : decDigits u ≠ [48] := fun e => decDigits_head u h _ _ e rfl

def tokN (n : Int) : List By := if n < 0 then [sMinus, decDigits n.natAbs] else [decDigits n.toNat]
def Rng (n : Int) : Prop := -1048576 ≤ n ∧ n ≤ 1048576
theorem numP_tok {p : Pc} {r : List Pc} {u : Nat} (h : p.1 = decDigits u) (hu : u ≤ 1048576) : numP (p :: r) = .ok ((u : Int), r) := by
  have e : hd (p :: r) = decDigits u := h
  unfold numP
  rw [e, if_pos ⟨fstD_dec u, zeroA_dec u⟩, valN_dec, if_pos hu, List.tail_cons]
theorem sgnP_tok {q r : List Pc} {n : Int} (h : q.map (·.1) = tokN n) (hn : Rng n) : sgnP (q ++ r) = .ok (n, r) := by
  unfold tokN at h
  obtain ⟨h1, h2⟩ := hn
  by_cases c : n < 0
  · rw [if_pos c] at h
    simp only [List.map_eq_cons_iff, List.map_eq_nil_iff] at h
    obtain ⟨p1, _, rfl, hp1, p2, _, rfl, hp2, rfl⟩ := h
    simp only [List.cons_append, List.nil_append]
    have e1 : hd (p1 :: p2 :: r) = sMinus := hp1
    have e2 : hd (p1 :: p2 :: r).tail ≠ [48] := by
      show p2.1 ≠ [48]
      rw [hp2]; exact dec_ne_zero (by omega)
    unfold sgnP
    rw [if_pos e1, if_neg e2, List.tail_cons, numP_tok hp2 (by omega)]
    simp only [Except.ok.injEq, Prod.mk.injEq, and_true]
    omega
  · rw [if_neg c] at h
    simp only [List.map_eq_cons_iff, List.map_eq_nil_iff] at h
    obtain ⟨p1, _, rfl, hp1, rfl⟩ := h
    simp only [List.cons_append, List.nil_append]
    unfold sgnP
    have hne : hd (p1 :: r) ≠ sMinus := by
      show p1.1 ≠ sMinus
      intro e
      rw [hp1] at e
      have := decDigits_all n.toNat 45 (by rw [e]; simp)
      revert this; decide
    rw [if_neg hne, numP_tok hp1 (by omega)]
    simp only [Except.ok.injEq, Prod.mk.injEq, and_true]
    omega
def tokS (lo hi : Int) : List By := tokN lo ++ sDots :: tokN hi
theorem tk_ok {p : Pc} {r : List Pc} {t : By} (h : p.1 = t) : tk t (p :: r) = .ok ((), r) := by
  have e : hd (p :: r) = t := h
  unfold tk; rw [if_pos e, List.tail_cons]
theorem spnP_tok {q r : List Pc} {lo hi : Int} (h : q.map (·.1) = tokS lo hi) (h1 : Rng lo) (h2 : Rng hi) : spnP (q ++ r) = .ok ((lo, hi), r) := by
  unfold tokS at h
  rw [List.map_eq_append_iff] at h
  obtain ⟨q1, q2, rfl, hq1, hq2⟩ := h
  rw [List.map_eq_cons_iff] at hq2
  obtain ⟨p, q3, rfl, hp, hq3⟩ := hq2
  unfold spnP
  rw [List.append_assoc, sgnP_tok hq1 h1]
  simp only [List.cons_append]
  rw [tk_ok hp]
  simp only
  rw [sgnP_tok hq3 h2]

/-! ### tests -/
def TOk (t : Tst) : Prop := nmd t.1 = true ∧ 1 ≤ t.2.1 ∧ t.2.1 ≤ 6 ∧ Rng t.2.2
def sigN (d : Int) : By := sigs.getD (d.toNat - 1) []
def tokT (t : Tst) : List By := t.1 :: sigN t.2.1 :: tokN t.2.2
theorem dng_sig {d : Int} (h1 : 1 ≤ d) (h2 : d ≤ 6) : (dng (sigN d) : Int) = d := by
  obtain ⟨n, rfl⟩ : ∃ n : Nat, d = n := ⟨d.toNat, by omega⟩
  have : n = 1 ∨ n = 2 ∨ n = 3 ∨ n = 4 ∨ n = 5 ∨ n = 6 := by omega
  rcases this with rfl | rfl | rfl | rfl | rfl | rfl <;> decide
theorem tstP_tok {q r : List Pc} {t : Tst} (h : q.map (·.1) = tokT t) (ht : TOk t) : tstP (q ++ r) = .ok (t, r) := by
  obtain ⟨c, d, v⟩ := t
  obtain ⟨h1, h2, h3, h4⟩ := ht
  simp only [tokT, List.map_eq_cons_iff] at h
  obtain ⟨p1, _, rfl, hp1, p2, q2, rfl, hp2, hq2⟩ := h
  simp only at h1 h2 h3 h4 hp1 hp2
  have e1 : hd (p1 :: (p2 :: q2 ++ r)) = c := hp1
  have e2 : hd (p2 :: q2 ++ r) = sigN d := hp2
  have e3 := dng_sig h2 h3
  unfold tstP nmP
  rw [List.cons_append, e1, if_pos h1, List.tail_cons]
  simp only
  rw [e2, if_neg (by omega)]
  simp only [List.cons_append, List.tail_cons]
  rw [sgnP_tok hq2 h4]
  simp only [e3]
def Err4 {α : Type} (r : PR α) : Prop := ∃ n, r = .error (4, n)
def Gd {α : Type} (r : PR α) (a : α) (rest : List Pc) : Prop := r = .ok (a, rest) ∨ Err4 r
def tokA (l : List Tst) : List By := l.flatMap fun t => wAnd :: tokT t
def tokW : List Tst → List By
  | [] => []
  | t :: l => wWhere :: (tokT t ++ tokA l)
theorem andL_tok : ∀ (l : List Tst) (k : Nat) (acc : List Tst) (q r : List Pc), q.map (·.1) = tokA l → (∀ t ∈ l, TOk t) → hd r ≠ wAnd → Gd (andL k acc (q ++ r)) (acc ++ l) r
  | [], k, acc, q, r, h, _, hr => by
    simp only [tokA, List.flatMap_nil, List.map_eq_nil_iff] at h
    subst h
    left
    rw [List.nil_append, List.append_nil]
    unfold andL
    rw [if_neg hr]
  | t :: l, k, acc, q, r, h, ht, hr => by
    simp only [tokA, List.flatMap_cons, List.cons_append, List.map_eq_cons_iff] at h
    obtain ⟨p, q1, rfl, hp, hq1⟩ := h
    rw [List.map_eq_append_iff] at hq1
    obtain ⟨q2, q3, rfl, hq2, hq3⟩ := hq1
    have e1 : hd (p :: (q2 ++ q3) ++ r) = wAnd := hp
    unfold andL
    rw [if_pos e1]
    simp only [List.cons_append, List.tail_cons]
    cases k with
    | zero => right; exact ⟨_, rfl⟩
    | succ k =>
      simp only [List.append_assoc]
      rw [tstP_tok hq2 (ht t (by simp))]
      simp only
      have := andL_tok l k (acc ++ [t]) q3 r hq3 (fun x hx => ht x (by simp [hx])) hr
      rwa [List.append_assoc, List.singleton_append] at this
theorem whrP_tok {l : List Tst} {q r : List Pc} (h : q.map (·.1) = tokW l) (ht : ∀ t ∈ l, TOk t) (h1 : hd r ≠ wWhere) (h2 : hd r ≠ wAnd) : Gd (whrP (q ++ r)) l r := by
  cases l with
  | nil =>
    simp only [tokW, List.map_eq_nil_iff] at h
    subst h
    left
    rw [List.nil_append]
    unfold whrP
    rw [if_neg h1]
  | cons t l =>
    simp only [tokW, List.map_eq_cons_iff] at h
    obtain ⟨p, q1, rfl, hp, hq1⟩ := h
    rw [List.map_eq_append_iff] at hq1
    obtain ⟨q2, q3, rfl, hq2, hq3⟩ := hq1
    have e1 : hd (p :: (q2 ++ q3) ++ r) = wWhere := hp
    unfold whrP
    rw [if_pos e1]
    simp only [List.cons_append, List.tail_cons]
    rw [List.append_assoc, tstP_tok hq2 (ht t (by simp))]
    exact andL_tok l 63 [t] q3 r hq3 (fun x hx => ht x (by simp [hx])) h2

/-! ### questions -/
def isS : Qu → Bool
  | .node k _ _ _ _ _ _ _ => decide (k = 4) || decide (k = 5)
  | .none => false
def isT : Qu → Bool
  | .node k _ _ _ _ _ _ _ => decide (k = 6)
  | .none => false
def brc (b : Bool) (l : List By) : List By := if b then sOpen :: (l ++ [sShut]) else l
def toks : Qu → List By
  | .none => []
  | .node k c lo hi wh _ x y =>
    if k = 1 then wCount :: tokW wh
    else if k = 2 then wSum :: c :: wIn :: (tokS lo hi ++ tokW wh)
    else if k = 3 then wBins :: c :: tokW wh
    else if k = 4 then toks x ++ sPlus :: brc (isS y) (toks y)
    else if k = 5 then toks x ++ sMinus :: brc (isS y) (toks y)
    else if k = 6 then tokN lo ++ sStar :: brc (isS x) (toks x)
    else if k = 7 then wJoin :: sOpen :: (toks x ++ sComma :: (toks y ++ [sShut]))
    else if k = 8 then wTotal :: brc true (toks x)
    else if k = 9 then brc (isS x || isT x) (toks x) ++ [sLeft, decDigits lo.toNat, sRight]
    else wClamp :: (tokS lo hi ++ brc true (toks x))
def WOk (l : List Tst) : Prop := l.length ≤ 64 ∧ ∀ t ∈ l, TOk t
/-- what can be said -/
def Say : Qu → Prop
  | .none => False
  | .node k c lo hi wh n x y =>
    (k = 1 ∧ c = [] ∧ lo = 0 ∧ hi = 0 ∧ n = 0 ∧ WOk wh ∧ x = .none ∧ y = .none) ∨
    (k = 2 ∧ nmd c = true ∧ Rng lo ∧ Rng hi ∧ n = 0 ∧ WOk wh ∧ x = .none ∧ y = .none) ∨
    (k = 3 ∧ nmd c = true ∧ lo = 0 ∧ hi = 0 ∧ n = 0 ∧ WOk wh ∧ x = .none ∧ y = .none) ∨
    ((k = 4 ∨ k = 5 ∨ k = 7) ∧ c = [] ∧ lo = 0 ∧ hi = 0 ∧ wh = [] ∧ n = 2 ∧ Say x ∧ Say y) ∨
    (k = 6 ∧ c = [] ∧ Rng lo ∧ hi = 0 ∧ wh = [] ∧ n = 1 ∧ Say x ∧ y = .none) ∨
    (k = 8 ∧ c = [] ∧ lo = 0 ∧ hi = 0 ∧ wh = [] ∧ n = 1 ∧ Say x ∧ y = .none) ∨
    (k = 9 ∧ c = [] ∧ (0 ≤ lo ∧ lo ≤ 1048576) ∧ hi = 0 ∧ wh = [] ∧ n = 1 ∧ Say x ∧ y = .none) ∨
    (k = 10 ∧ c = [] ∧ Rng lo ∧ Rng hi ∧ wh = [] ∧ n = 1 ∧ Say x ∧ y = .none)
/-- what may stand behind a question -/
def Fol (r : List Pc) : Prop := hd r ≠ sLeft ∧ hd r ≠ wWhere ∧ hd r ≠ wAnd
theorem fol_of {p : Pc} {r : List Pc} {t : By} (h : p.1 = t) (ht : t = sPlus ∨ t = sMinus ∨ t = sShut ∨ t = sComma) : Fol (p :: r) := by
  unfold Fol
  simp only [hd, h]
  rcases ht with rfl | rfl | rfl | rfl <;> decide
def QS (a : Qu) : Prop := ∀ (k : Nat) (q r : List Pc), q.map (·.1) = toks a → Fol r → (∃ m, qusK k (q ++ r) = sumL (prdP k) m a r) ∨ Err4 (qusK k (q ++ r))
def PS (a : Qu) : Prop := isS a = false → ∀ (k : Nat) (q r : List Pc), q.map (·.1) = toks a → Fol r → Gd (prdP k (q ++ r)) a r
def KS (a : Qu) : Prop := isS a = false → isT a = false → ∀ (k n : Nat) (q r : List Pc), q.map (·.1) = toks a → hd r ≠ wWhere → hd r ≠ wAnd → (∃ m, pikP (qusK k) n (q ++ r) = pikL m a r) ∨ Err4 (pikP (qusK k) n (q ++ r))
theorem sumL_end (p : List Pc → PR Qu) (m : Nat) (a : Qu) {r : List Pc} (h1 : hd r ≠ sPlus) (h2 : hd r ≠ sMinus) : sumL p m a r = .ok (a, r) := by
  unfold sumL; rw [if_neg (by simp only [not_or]; exact ⟨h1, h2⟩)]
theorem pikL_end (m : Nat) (a : Qu) {r : List Pc} (h1 : hd r ≠ sLeft) : pikL m a r = .ok (a, r) := by
  unfold pikL; rw [if_neg h1]
/-- a question that ends where a bracket or a comma stands -/
theorem QS.shut {a : Qu} (h : QS a) {k : Nat} {q r : List Pc} (hq : q.map (·.1) = toks a) {t : By} (hr : hd r = t) (ht : t = sShut ∨ t = sComma) : Gd (qusK k (q ++ r)) a r := by
  have hf : Fol r := by unfold Fol; rw [hr]; rcases ht with rfl | rfl <;> decide
  rcases h k q r hq hf with ⟨m, hm⟩ | he
  · left
    rw [hm]
    exact sumL_end _ m a (by rw [hr]; rcases ht with rfl | rfl <;> decide) (by rw [hr]; rcases ht with rfl | rfl <;> decide)
  · exact .inr he
theorem brk_tok {a : Qu} (h : QS a) {k : Nat} {q r : List Pc} (hq : q.map (·.1) = sOpen :: (toks a ++ [sShut])) : Gd (brkP (qusK k) (q ++ r)) a r := by
  simp only [List.map_eq_cons_iff] at hq
  obtain ⟨p, q1, rfl, hp, hq1⟩ := hq
  rw [List.map_eq_append_iff] at hq1
  obtain ⟨q2, q3, rfl, hq2, hq3⟩ := hq1
  simp only [List.map_eq_cons_iff, List.map_eq_nil_iff] at hq3
  obtain ⟨p2, _, rfl, hp2, rfl⟩ := hq3
  unfold brkP
  simp only [List.cons_append, List.append_assoc, List.nil_append]
  rw [tk_ok hp]
  simp only
  rcases h.shut (k := k) hq2 (r := p2 :: r) (t := sShut) hp2 (.inl rfl) with h1 | ⟨n, h1⟩
  · rw [h1]
    left
    simp only
    rw [tk_ok hp2]
  · rw [h1]
    exact .inr ⟨n, rfl⟩
/-- the first piece -/
def Fst (l : List By) : Prop := ∃ t r, l = t :: r ∧ t ≠ sMinus ∧ fstD t = false
theorem prd_pik {k : Nat} {q r : List Pc} (h : Fst (q.map (·.1))) : prdP (k + 1) (q ++ r) = pikP (qusK k) 64 (q ++ r) := by
  obtain ⟨t, l, hl, h1, h2⟩ := h
  rw [List.map_eq_cons_iff] at hl
  obtain ⟨p, q1, rfl, hp, _⟩ := hl
  have e1 : hd (p :: q1 ++ r) = t := hp
  unfold prdP
  rw [if_neg (by rw [e1]; simp only [not_or]; exact ⟨h1, by rw [h2]; decide⟩)]
  rfl
theorem fst_toks {a : Qu} (h : Say a) (hs : isS a = false) (ht : isT a = false) : Fst (toks a) := by
  induction a with
  | none => exact h.elim
  | node k c lo hi wh n x y ihx ihy =>
    rcases h with ⟨rfl, h⟩ | ⟨rfl, h⟩ | ⟨rfl, h⟩ | ⟨h1, h⟩ | ⟨rfl, h⟩ | ⟨rfl, h⟩ | ⟨rfl, h⟩ | ⟨rfl, h⟩
    · exact ⟨_, _, rfl, by decide, by decide⟩
    · exact ⟨_, _, rfl, by decide, by decide⟩
    · exact ⟨_, _, rfl, by decide, by decide⟩
    · rcases h1 with rfl | rfl | rfl
      · simp [isS] at hs
      · simp [isS] at hs
      · exact ⟨_, _, rfl, by decide, by decide⟩
    · simp [isT] at ht
    · exact ⟨_, _, rfl, by decide, by decide⟩
    · show Fst (brc (isS x || isT x) (toks x) ++ [sLeft, decDigits lo.toNat, sRight])
      by_cases hb : (isS x || isT x) = true
      · rw [hb]
        exact ⟨_, _, rfl, by decide, by decide⟩
      · have hb' : (isS x || isT x) = false := by simpa using hb
        simp only [Bool.or_eq_false_iff] at hb'
        obtain ⟨t, r, h1, h2, h3⟩ := ihx h.2.2.2.2.2.1 hb'.1 hb'.2
        rw [hb'.1, hb'.2]
        refine ⟨t, r ++ [sLeft, decDigits lo.toNat, sRight], ?_, h2, h3⟩
        show toks x ++ _ = _
        rw [h1]; rfl
    · exact ⟨_, _, rfl, by decide, by decide⟩
/-- in brackets, or not: a product -/
theorem near_tok {a : Qu} (hq : QS a) (hp : PS a) {k : Nat} {q r : List Pc} (h : q.map (·.1) = brc (isS a) (toks a)) (hf : Fol r) : Gd (prdP k (q ++ r)) a r := by
  by_cases hs : isS a = true
  · rw [hs] at h
    cases k with
    | zero => exact .inr ⟨_, rfl⟩
    | succ k =>
      rw [prd_pik (by rw [h]; exact ⟨_, _, rfl, by decide, by decide⟩)]
      unfold pikP thgP
      have hh : hd (q ++ r) = sOpen := by
        simp only [brc, if_pos, List.map_eq_cons_iff] at h
        obtain ⟨p, q1, rfl, hp, _⟩ := h
        exact hp
      rw [if_pos hh]
      rcases brk_tok hq (k := k) (q := q) (r := r) (by simpa [brc] using h) with h1 | ⟨n, h1⟩
      · rw [h1]; left; exact pikL_end _ _ hf.1
      · rw [h1]; exact .inr ⟨n, rfl⟩
  · have hs' : isS a = false := by simpa using hs
    rw [hs'] at h
    exact hp hs' k q r h hf
end Sp
end Go.Proofs.YtidfkencjdjkbaaGreatDoor
