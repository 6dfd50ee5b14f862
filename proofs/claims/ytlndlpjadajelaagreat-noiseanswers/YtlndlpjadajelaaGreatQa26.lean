import Derived.Test.YtlndlpjadajelaaGreatQa25
import Derived.Test.YtlndlpjadajelaaGreatQa24
namespace Go.Proofs.YtlndlpjadajelaaGreat.K
open Go.RowKit Go.Proofs.YtlndlpjadajelaaGreat.K.Ds

theorem nc {w : World} {N : Nat} (cs : Array Value) (t : TypeId) (k : Nat) (x : Value) (hN : N = w.heap.size) (hx : cs[k]? = some x) : (w.alloc (.cells cs t)).cell? ⟨N, k, none⟩ = some x := by
  rw [World.cell?_alloc_at _ _ _ _ hN]; exact hx
theorem nf {w : World} {N : Nat} (cs : Array Value) (t : TypeId) (k : Nat) (hN : N = w.heap.size) : (w.alloc (.cells cs t)).frozen? ⟨N, k, none⟩ = false := World.frozen?_alloc_at _ _ _ _ hN

set_option maxHeartbeats 1000000 in
theorem columns_any (B : Nat) (v : Value) (l : List Col) (w : World) (hB : B ≤ w.heap.size) (hp : Cols w B v l) (er : Int) (hr : colE l = er) :
    Calls Tryz.prog 116 #[v] w fun e w' => e = .returned (.int .i64 er) ∧ Below w.heap.size w w' := by
  have HP : Hid (Cols w B v l) := hp
  have HR : Hid (colE l = er) := hr
  obtain ⟨a, c, rfl, hc, hl⟩ := hp.slice
  clear hr
  go_enter Tryz.func116, Tryz.ntmps116
  by_cases h0 : l.length = 0
  · have hq : ((l.length : Int) == 0) = true := by simp [h0]
    obtain rfl : 5 = er := by rw [← HR.out, colE, if_pos (by omega)]
    go_wp2
    go_ret
    exact ⟨rfl, Below.refl _ _⟩
  have hq : ((l.length : Int) == 0) = false := by rw [beq_eq_false_iff_ne]; omega
  have HQ0 : Hid (l.length ≠ 0) := h0
  clear h0
  by_cases h6 : 6 < l.length
  · obtain rfl : 5 = er := by rw [← HR.out, colE, if_pos (by omega)]
    go_wp2
    go_ret
    exact ⟨rfl, Below.refl _ _⟩
  have HE : Hid (colE l = if colL [] l = 0 then (if 4096 < prd l then 4 else 0) else colL [] l) := by show _ = _; rw [colE, if_neg (by have := HQ0.out; omega)]
  go_wp2
  go_loopw [15] (fun s wr => ∃ (i : Nat), s = .int .i64 (i : Int) ∧ i ≤ l.length ∧ Hid (colL (l.take i) (l.drop i) = colL [] l) ∧ Below w.heap.size w wr) (fun s _ => l.length - (intOf s).toNat)
  case atStart => exact ⟨0, rfl, Nat.zero_le _, by simp [Hid], Below.refl _ _⟩
  case round =>
    obtain ⟨i, rfl, hi, HI, hbl⟩ := hrel
    by_cases h1 : i < l.length
    · obtain ⟨b, o, nm, sz, rfl, hb, hgt, c1, c2, hn⟩ := HP.out.get hB hbl h1
      have ST : Hid (colL [] l = if namB nm.data.toList then (if (l.take i).any (fun d => decide (d.1 = nm)) then 7 else if sz < 1 ∨ 4096 < sz then 3 else colL (l.take (i + 1)) (l.drop (i + 1))) else 2) := HI.out.symm.trans (colL_step hgt)
      clear hgt HI
      have hsz := hbl.size
      cases hnm : namB nm.data.toList with
      | false =>
        have HN : Hid (namB nm.data.toList = false) := hnm
        clear hnm
        obtain rfl : 2 = er := by rw [← HR.out, HE.out, ST.out, HN.out]; simp
        go_wp2_with fail
        refine (named_any nm hn _ false HN.out).mono ?_
        rintro e w1 ⟨rfl, rfl⟩
        go_wp2
        go_ret
        exact ⟨rfl, bal hbl _⟩
      | true =>
        have HN : Hid (namB nm.data.toList = true) := hnm
        clear hnm
        cases han : (l.take i).any (fun d => decide (d.1 = nm)) with
        | true =>
          have HA : Hid ((l.take i).any (fun d => decide (d.1 = nm)) = true) := han
          clear han
          obtain rfl : 7 = er := by rw [← HR.out, HE.out, ST.out, HN.out, HA.out]; simp
          have kc := contains_any B wr.heap.size (.slice (some ⟨b, o, none⟩) i c) (l.take i) nm (wr.alloc (.cells #[.string nm, .int .i64 sz] 74)) (by simp; omega) (((HP.out.take i hi).at hB hbl).at (by omega) (ba _ _)) (by simp) (nc _ _ 0 _ rfl rfl) true HA.out
          go_wp2_with fail
          refine (named_any nm hn _ true HN.out).mono ?_
          rintro e w1 ⟨rfl, rfl⟩
          go_wp2_with fail
          refine kc.mono ?_
          rintro e w1 ⟨rfl, hb1⟩
          have hb2 : Below w.heap.size w w1 := bt (bal hbl _) hb1
          clear hb1 kc
          go_wp2
          go_ret
          exact ⟨rfl, hb2⟩
        | false =>
          have HA : Hid ((l.take i).any (fun d => decide (d.1 = nm)) = false) := han
          clear han
          have kc := contains_any B wr.heap.size (.slice (some ⟨b, o, none⟩) i c) (l.take i) nm (wr.alloc (.cells #[.string nm, .int .i64 sz] 74)) (by simp; omega) (((HP.out.take i hi).at hB hbl).at (by omega) (ba _ _)) (by simp) (nc _ _ 0 _ rfl rfl) false HA.out
          have hcell : (wr.alloc (.cells #[.string nm, .int .i64 sz] 74)).cell? ⟨wr.heap.size, 1, none⟩ = some (.int .i64 sz) := nc _ _ 1 _ rfl rfl
          by_cases hz : sz < 1 ∨ 4096 < sz
          · obtain rfl : 3 = er := by rw [← HR.out, HE.out, ST.out, HN.out, HA.out]; simp [hz]
            go_wp2_with fail
            refine (named_any nm hn _ true HN.out).mono ?_
            rintro e w1 ⟨rfl, rfl⟩
            go_wp2_with fail
            refine kc.mono ?_
            rintro e w1 ⟨rfl, hb1⟩
            have hb2 : Below w.heap.size w w1 := bt (bal hbl _) hb1
            have hc1 : w1.cell? ⟨wr.heap.size, 1, none⟩ = some (.int .i64 sz) := (hb1.cell (p := ⟨wr.heap.size, 1, none⟩) (by simp)).trans hcell
            clear hb1 kc hcell
            by_cases hz1 : sz < 1
            · clear hz
              go_wp2
              go_ret
              exact ⟨rfl, hb2⟩
            · have hz2 : 4096 < sz := by omega
              clear hz
              go_wp2
              go_ret
              exact ⟨rfl, hb2⟩
          · have HI2 : Hid (colL (l.take (i + 1)) (l.drop (i + 1)) = colL [] l) := by show _ = _; rw [ST.out, HN.out, HA.out]; simp [hz]
            have hz1 : ¬ sz < 1 := by omega
            have hz2 : ¬ 4096 < sz := by omega
            clear hz
            go_wp2_with fail
            refine (named_any nm hn _ true HN.out).mono ?_
            rintro e w1 ⟨rfl, rfl⟩
            go_wp2_with fail
            refine kc.mono ?_
            rintro e w1 ⟨rfl, hb1⟩
            have hb2 : Below w.heap.size w w1 := bt (bal hbl _) hb1
            have hc1 : w1.cell? ⟨wr.heap.size, 1, none⟩ = some (.int .i64 sz) := (hb1.cell (p := ⟨wr.heap.size, 1, none⟩) (by simp)).trans hcell
            clear hb1 kc hcell
            go_wp2
            go_roundw
            case rel => exact ⟨i + 1, by go_num, h1, HI2, hb2⟩
            case measure => simp [intOf]; omega
    · have HN : Hid (colL [] l = 0) := by have := HI.out; rw [List.drop_eq_nil_of_le (by omega)] at this; exact this.symm.trans rfl
      have HS : Hid (Szs l) := colL_szs HN.out
      have kc := size_any B _ l wr (Nat.le_trans hB hbl.size) (HP.out.at hB hbl) HS.out _ rfl
      by_cases hpz : 4096 < prd l
      · obtain rfl : 4 = er := by rw [← HR.out, HE.out, HN.out]; simp [hpz]
        have hm : min (prd l) 4097 = 4097 := by omega
        rw [hm] at kc
        go_wp2_with fail
        refine kc.mono ?_
        rintro e w1 ⟨rfl, hb1⟩
        go_wp2
        go_ret
        exact ⟨rfl, bt hbl hb1⟩
      · obtain rfl : 0 = er := by rw [← HR.out, HE.out, HN.out]; simp [hpz]
        have hm : min (prd l) 4097 = prd l := by omega
        rw [hm] at kc
        go_wp2_with fail
        refine kc.mono ?_
        rintro e w1 ⟨rfl, hb1⟩
        go_wp2
        go_ret
        exact ⟨rfl, bt hbl hb1⟩
end Go.Proofs.YtlndlpjadajelaaGreat.K

namespace Go.Proofs.YtlndlpjadajelaaGreat.K.Ds

/-- a test: its column, Do, Value -/
abbrev Tst := ByteArray × Int × Int
abbrev Bnd := Int × Int × Int
/-- a question: Kind, Column, Low, High, Where, how many kids; the first and the second of them -/
inductive Qu where
  | none
  | node (k : Int) (c : ByteArray) (lo hi : Int) (wh : List Tst) (n : Nat) (x y : Qu)

/-- where a column stands -/
def fnd : List Col → ByteArray → Option Nat
  | [], _ => none
  | c :: l, s => if c.1 = s then some 0 else (fnd l s).map (· + 1)
theorem fnd_lt {l : List Col} {s : ByteArray} {i : Nat} (h : fnd l s = some i) : i < l.length := by
  induction l generalizing i with
  | nil => simp [fnd] at h
  | cons c l ih =>
    simp only [fnd] at h
    split at h
    · simp only [Option.some.injEq] at h; subst h; simp
    · obtain ⟨j, hj, rfl⟩ := Option.map_eq_some_iff.1 h
      have := ih hj
      simp; omega
/-- none ahead of place i has that name -/
def NoC (l : List Col) (s : ByteArray) (i : Nat) : Prop := ∀ j c, j < i → l[j]? = some c → c.1 ≠ s
theorem fnd_hit {l : List Col} {s : ByteArray} {i : Nat} {c : Col} (h : NoC l s i) (hc : l[i]? = some c) (he : c.1 = s) : fnd l s = some i := by
  induction l generalizing i with
  | nil => simp at hc
  | cons d l ih =>
    simp only [fnd]
    cases i with
    | zero => simp at hc; subst hc; rw [if_pos he]
    | succ i =>
      have h0 := h 0 d (by omega) rfl
      rw [if_neg h0, ih (i := i) (fun j c hj hjc => h (j + 1) c (by omega) (by simpa using hjc)) (by simpa using hc)]
      rfl
theorem fnd_no {l : List Col} {s : ByteArray} (h : NoC l s l.length) : fnd l s = none := by
  induction l with
  | nil => rfl
  | cons d l ih =>
    simp only [fnd]
    rw [if_neg (h 0 d (by simp) rfl), ih (fun j c hj hjc => h (j + 1) c (by simp; omega) (by simpa using hjc))]
    rfl
theorem NoC.next {l : List Col} {s : ByteArray} {i : Nat} {c : Col} (h : NoC l s i) (hc : l[i]? = some c) (hne : c.1 ≠ s) : NoC l s (i + 1) := by
  intro j d hj hd
  rcases Nat.lt_or_eq_of_le (Nat.le_of_lt_succ hj) with hlt | rfl
  · exact h j d hlt hd
  · rw [hc] at hd; cases hd; exact hne

def doB (d : Int) : Bool := decide (1 ≤ d ∧ d ≤ 6)
def tsE (l : List Col) : List Tst → Int
  | [] => 0
  | t :: r => if (fnd l t.1).isSome then (if doB t.2.1 then tsE l r else 1) else 7
/-- what is wrong with tests -/
def whE (l : List Col) (wh : List Tst) : Int := if 64 < wh.length then 4 else tsE l wh
theorem tsE_step {l : List Col} {wh : List Tst} {i : Nat} {t : Tst} (h : wh[i]? = some t) : tsE l (wh.drop i) = if (fnd l t.1).isSome then (if doB t.2.1 then tsE l (wh.drop (i + 1)) else 1) else 7 := by
  rw [List.drop_eq_getElem_cons (List.getElem?_eq_some_iff.1 h).1, (List.getElem?_eq_some_iff.1 h).2]
  rfl
theorem tsE_ok {l : List Col} {wh : List Tst} (h : tsE l wh = 0) : ∀ t ∈ wh, (fnd l t.1).isSome = true ∧ doB t.2.1 = true := by
  induction wh with
  | nil => intro t ht; cases ht
  | cons d r ih =>
    simp only [tsE] at h
    split at h
    · split at h
      · intro t ht
        rcases List.mem_cons.1 ht with rfl | ht
        · exact ⟨by assumption, by assumption⟩
        · exact ih h t ht
      · cases h
    · cases h

/-- how many kids a kind has -/
def kidN (k : Int) : Int := if k = 1 ∨ k = 2 ∨ k = 3 then 0 else if k = 6 ∨ k = 8 ∨ k = 9 ∨ k = 10 then 1 else if k = 4 ∨ k = 5 ∨ k = 7 then 2 else -1
def wrtB (lo hi : Int) : Bool := decide (-1048576 ≤ lo ∧ lo ≤ hi ∧ hi ≤ 1048576)
/-- how far they are from 0 -/
def spn (lo hi : Int) : Int := if -lo ≤ hi then hi else -lo
theorem spn_bd {lo hi : Int} (h : wrtB lo hi = true) : 0 ≤ spn lo hi ∧ spn lo hi ≤ 1048576 := by
  simp only [wrtB, decide_eq_true_eq] at h
  unfold spn
  split <;> omega
def mx (a b : Int) : Int := if a ≤ b then b else a
def szC (l : List Col) (i : Nat) : Int := (l[i]?.map (·.2)).getD 0

def ifW (e : Int) (b : Bnd) : Except Int Bnd := if e = 0 then .ok b else .error e
/-- the bound of a question, of those of its kids -/
def rec (l : List Col) (k : Int) (c : ByteArray) (lo hi : Int) (wh : List Tst) (x y : Bnd) : Except Int Bnd :=
  if k = 1 then ifW (whE l wh) (1, 1, 4096)
  else if k = 2 then (if (fnd l c).isSome then (if wrtB lo hi then ifW (whE l wh) (1, spn lo hi, 4096 * spn lo hi) else .error 3) else .error 7)
  else if k = 3 then (match fnd l c with | some i => ifW (whE l wh) (szC l i, 1, 4096) | none => .error 7)
  else if k = 6 then (if wrtB lo lo then .ok (x.1, spn lo lo * x.2.1, spn lo lo * x.2.2) else .error 3)
  else if k = 7 then .ok (x.1 + y.1, x.2.1 + y.2.1, mx x.2.2 y.2.2)
  else if k = 8 then .ok (1, x.2.1, x.1 * x.2.2)
  else if k = 9 then (if 0 ≤ lo ∧ lo < x.1 then .ok (1, x.2.1, x.2.2) else .error 3)
  else if k = 10 then (if wrtB lo hi then .ok (x.1, x.2.1, spn lo hi) else .error 3)
  else (if x.1 = y.1 then .ok (x.1, x.2.1 + y.2.1, x.2.2 + y.2.2) else .error 8)
def limB (b : Bnd) : Bool := decide (b.1 ≤ 4096 ∧ b.2.1 ≤ 1099511627776 ∧ b.2.2 ≤ 1099511627776)
def lim (b : Bnd) : Except Int Bnd := if limB b then .ok b else .error 4
def ifK (p : Prop) [Decidable p] (r : Except Int Bnd) : Except Int Bnd := if p then r else .ok (0, 0, 0)
/-- the bound of a question on a level -/
def bnd (l : List Col) : Nat → Qu → Except Int Bnd
  | _, .none => .ok (0, 0, 0)
  | lv, .node k c lo hi wh n x y =>
    if 64 < lv then .error 4 else if kidN k < 0 then .error 1 else if (n : Int) = kidN k then
      (match ifK (1 ≤ n) (bnd l (lv + 1) x) with
        | .error e => .error e
        | .ok bx => match ifK (2 ≤ n) (bnd l (lv + 1) y) with
          | .error e => .error e
          | .ok b' => match rec l k c lo hi wh bx b' with
            | .error e => .error e
            | .ok b => lim b)
    else .error 5
/-- what a bound keeps to -/
def BOk (b : Bnd) : Prop := 0 ≤ b.1 ∧ b.1 ≤ 4096 ∧ 0 ≤ b.2.1 ∧ b.2.1 ≤ 1099511627776 ∧ 0 ≤ b.2.2 ∧ b.2.2 ≤ 1099511627776
theorem szC_bd {l : List Col} (hs : Szs l) {i : Nat} {s : ByteArray} (h : fnd l s = some i) : 1 ≤ szC l i ∧ szC l i ≤ 4096 := by
  obtain ⟨c, hc⟩ : ∃ c, l[i]? = some c := ⟨l[i]'(fnd_lt h), List.getElem?_eq_getElem (fnd_lt h)⟩
  have := hs c (List.mem_of_getElem? hc)
  simp [szC, hc]; exact this
theorem mul_bd {a b M N : Int} (h1 : 0 ≤ a) (h2 : a ≤ M) (h3 : 0 ≤ b) (h4 : b ≤ N) : 0 ≤ a * b ∧ a * b ≤ M * N :=
  ⟨Int.mul_nonneg h1 h3, Int.mul_le_mul h2 h4 h3 (by omega)⟩
/-- nothing that is reckoned is below 0 or above 2^60 -/
theorem rec_bd {l : List Col} (hs : Szs l) {k : Int} {c : ByteArray} {lo hi : Int} {wh : List Tst} {x y b : Bnd} (hx : BOk x) (hy : BOk y) (h : rec l k c lo hi wh x y = .ok b) : 0 ≤ b.1 ∧ 0 ≤ b.2.1 ∧ 0 ≤ b.2.2 := by
  obtain ⟨x1, x2, x3⟩ := x
  obtain ⟨y1, y2, y3⟩ := y
  obtain ⟨p1, p2, p3, p4, p5, p6⟩ := hx
  obtain ⟨q1, q2, q3, q4, q5, q6⟩ := hy
  simp only at p1 p2 p3 p4 p5 p6 q1 q2 q3 q4 q5 q6
  unfold rec ifW at h
  repeat' split at h
  all_goals first
    | cases h; done
    | (cases h; simp only; omega)
    | (rename_i h1 _; cases h; have := spn_bd h1; simp only; omega)
    | skip
  · rename_i hf _; cases h; have := szC_bd hs hf; simp only; omega
  · rename_i h1; cases h; have h0 := spn_bd h1
    have e1 := mul_bd h0.1 h0.2 p3 p4
    have e2 := mul_bd h0.1 h0.2 p5 p6
    simp only; omega
  · cases h; simp only [mx]; split <;> omega
  · cases h; have e2 := mul_bd p1 p2 p5 p6; simp only; omega
  · rename_i h1; cases h; have h0 := spn_bd h1; simp only; omega
theorem lim_ok {b b' : Bnd} (h : lim b = .ok b') : b' = b ∧ limB b = true := by
  unfold lim at h
  split at h
  · cases h; exact ⟨rfl, by assumption⟩
  · cases h
theorem bnd_bd {l : List Col} (hs : Szs l) (q : Qu) : ∀ (lv : Nat) (b : Bnd), bnd l lv q = .ok b → BOk b := by
  have z : BOk (0, 0, 0) := ⟨by decide, by decide, by decide, by decide, by decide, by decide⟩
  induction q with
  | none => intro lv b h; simp only [bnd] at h; cases h; exact z
  | node k c lo hi wh n x y ihx ihy =>
    intro lv b h
    simp only [bnd] at h
    split at h
    · cases h
    · split at h
      · cases h
      · split at h
        · split at h
          · cases h
          · rename_i bx hbx
            split at h
            · cases h
            · rename_i b' hby
              split at h
              · cases h
              · rename_i b0 hr
                obtain ⟨rfl, hl⟩ := lim_ok h
                have kx : BOk bx := by
                  unfold ifK at hbx
                  split at hbx
                  · exact ihx _ _ hbx
                  · cases hbx; exact z
                have ky : BOk b' := by
                  unfold ifK at hby
                  split at hby
                  · exact ihy _ _ hby
                  · cases hby; exact z
                have := rec_bd hs kx ky hr
                simp only [limB, decide_eq_true_eq] at hl
                exact ⟨this.1, hl.1, this.2.1, hl.2.1, this.2.2, hl.2.2⟩
        · cases h
end Go.Proofs.YtlndlpjadajelaaGreat.K.Ds
