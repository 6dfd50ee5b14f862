import Derived.Test.YtlndlpjadajelaaGreatQt07
namespace Go.Proofs.YtlndlpjadajelaaGreat
open Go.RowKit Go.Proofs.YtlndlpjadajelaaGreat.Ds

/-- a distribution -/
structure Dis (l : List Pt) : Prop where
  rise : Rise l
  pos : Pos l
  le : tot l ≤ 1073741824
  ne : l ≠ []
  ok : l.all okP = true
  few : l.length ≤ 4096
  one : dv l = 1

theorem cut_rise {g : Int} {l : List Pt} (h : Rise l) : Rise (cut g l) := by
  unfold Rise cut
  rw [List.pairwise_map]
  exact h

theorem dv_mul (g : Nat) : ∀ l : List Pt, dv (l.map fun p => (p.1, (g : Int) * p.2)) = g * dv l
  | [] => by simp [dv]
  | p :: l => by
    simp only [List.map_cons, dv, dv_mul g l]
    rw [Int.natAbs_mul, Int.natAbs_natCast, Nat.gcd_mul_left]

theorem cut_back {l : List Pt} {g : Nat} (h : ∀ p ∈ l, (g : Int) ∣ p.2) : (cut g l).map (fun p => (p.1, (g : Int) * p.2)) = l := by
  simp only [cut, List.map_map]
  conv => rhs; rw [← List.map_id l]
  refine List.map_congr_left fun p hp => ?_
  simp only [Function.comp, id]
  rw [Int.mul_ediv_cancel' (h p hp)]

theorem lowT_ok {l m : List Pt} (hp : Pos l) (hr : Rise l) (h : lowT l = (m, 0)) : Rise m ∧ Pos m ∧ tot m ≤ 1073741824 ∧ m ≠ [] ∧ m.length ≤ 4096 ∧ dv m = 1 := by
  unfold lowT at h
  split at h
  · simp at h
  · rename_i hne
    split at h
    · simp at h
    · rename_i hc
      simp only [Prod.mk.injEq, and_true] at h
      subst h
      have hd := dv_pos hp hne
      have hdv : ∀ p ∈ l, ((dv l : Nat) : Int) ∣ p.2 := fun p hp => dv_dvd_int hp
      refine ⟨cut_rise hr, ?_, by omega, ?_, by rw [cut_length]; omega, ?_⟩
      · intro p hpm
        obtain ⟨q, hq, rfl⟩ := List.mem_map.1 hpm
        have h1 := hp q hq
        exact Int.ediv_pos_of_pos_of_dvd h1 (by omega) (hdv q hq)
      · simp [cut, hne]
      · have e := dv_mul (dv l) (cut (dv l) l)
        rw [cut_back hdv] at e
        exact Nat.eq_of_mul_eq_mul_left hd (by rw [← e, Nat.mul_one])

theorem ownT_ok {l m : List Pt} (h : ownT l = (m, 0)) : m = l ∧ Dis l := by
  unfold ownT at h
  split at h
  · rename_i h0
    split at h
    · rename_i h1
      simp only [Prod.mk.injEq, and_true] at h
      have hm : makeT l = (l, 0) := Prod.ext h1 h0
      unfold makeT at hm
      split at hm
      · rename_i hok
        obtain ⟨a, b, c, d, e, f⟩ := lowT_ok (gath_pos (all_okP hok).1) (gath_rise l) hm
        exact ⟨h.symm, a, b, c, d, hok, e, f⟩
      · simp at hm
    · simp at h
  · rename_i h0
    simp only [Prod.mk.injEq] at h
    exact absurd h.2 h0

theorem wt_at {l : List Pt} (h : Rise l) {i : Nat} {p : Pt} (hp : l[i]? = some p) : wt l p.1 = p.2 := by
  induction l generalizing i with
  | nil => simp at hp
  | cons q l ih =>
    cases i with
    | zero => simp at hp; subst hp; exact wt_head h
    | succ i =>
      simp at hp
      rw [wt_cons, ih (rise_tail h) hp, if_neg (ltL_ne ((List.pairwise_cons.1 h).1 p (List.mem_of_getElem? hp)))]
      omega

theorem tot_pos2 {l : List Pt} (h : Pos l) (hne : l ≠ []) : 0 < tot l := by
  cases l with
  | nil => exact absurd rfl hne
  | cons p l => have := h p (by simp); have := tot_pos (l := l) fun q hq => h q (by simp [hq]); rw [tot_cons]; omega

end Go.Proofs.YtlndlpjadajelaaGreat

namespace Go.Proofs.YtlndlpjadajelaaGreat
open Go.RowKit Go.Proofs.YtlndlpjadajelaaGreat.Ds

/-- has it a number there -/
def hasP (place : Int) (p : Pt) : Bool := decide (0 ≤ place ∧ place < (p.1.length : Int))
/-- all numbers there, each times its weight -/
def msum (place : Int) : List Pt → Int
  | [] => 0
  | p :: l => p.1.getD place.toNat 0 * p.2 + msum place l

theorem msum_append (place : Int) (l k : List Pt) : msum place (l ++ k) = msum place l + msum place k := by
  induction l with
  | nil => simp [msum]
  | cons p l ih => simp only [List.cons_append, msum, ih]; omega
theorem msum_take {place : Int} {l : List Pt} {i : Nat} {p : Pt} (h : l[i]? = some p) : msum place (l.take (i + 1)) = msum place (l.take i) + p.1.getD place.toNat 0 * p.2 := by
  rw [List.take_add_one, h, msum_append]; simp [msum]

theorem okN_bd {n : Int} (h : okN n = true) : -1073741824 ≤ n ∧ n ≤ 1073741824 := by
  unfold okN at h; exact of_decide_eq_true h

theorem okP_at {p : Pt} (h : okP p = true) (i : Nat) : -1073741824 ≤ p.1.getD i 0 ∧ p.1.getD i 0 ≤ 1073741824 := by
  have h2 : ∀ x ∈ p.1, okN x = true := by
    unfold okP okO at h
    simp only [Bool.and_eq_true, List.all_eq_true] at h
    exact h.2.2
  rw [List.getD_eq_getElem?_getD]
  cases hx : p.1[i]? with
  | none => simp
  | some x => exact okN_bd (h2 x (List.mem_of_getElem? hx))

theorem mul_le_abs {x k : Int} (h : -1073741824 ≤ x ∧ x ≤ 1073741824) (hk : 0 ≤ k) : -1073741824 * k ≤ x * k ∧ x * k ≤ 1073741824 * k :=
  ⟨Int.mul_le_mul_of_nonneg_right h.1 hk, Int.mul_le_mul_of_nonneg_right h.2 hk⟩

theorem msum_bd {place : Int} {l : List Pt} (ho : l.all okP = true) : -1073741824 * tot l ≤ msum place l ∧ msum place l ≤ 1073741824 * tot l := by
  induction l with
  | nil => simp [msum]
  | cons p l ih =>
    simp only [List.all_cons, Bool.and_eq_true] at ho
    have h1 := ih ho.2
    have hk : 0 ≤ p.2 := (all_okP (l := [p]) (by simp [ho.1])).1 p (by simp)
    have h2 := mul_le_abs (okP_at ho.1 place.toNat) hk
    simp only [msum, tot_cons]
    omega

theorem all_take_true {α : Type} {l : List α} {f : α → Bool} (h : l.all f = true) (i : Nat) : (l.take i).all f = true := by
  rw [List.all_eq_true] at *
  exact fun x hx => h x (List.mem_of_mem_take hx)

theorem tdiv_abs (a b : Int) : (a.tdiv b).natAbs ≤ a.natAbs := by
  rw [Int.natAbs_tdiv]; exact Nat.div_le_self _ _

end Go.Proofs.YtlndlpjadajelaaGreat

namespace Go.Proofs.YtlndlpjadajelaaGreat
open Go.RowKit Go.Proofs.YtlndlpjadajelaaGreat.Ds

/-- what 'least' looks for -/
def Cand (bd : Bool) (ab : List Int) (t : Tr) : Prop := 0 < t.2.2 ∧ (bd = true → ltL ab t.2.1)

/-- what 'least' has found among some -/
def Found (bd : Bool) (ab : List Int) (l : List Tr) (v : Value) (f : Bool) : Prop :=
  (f = false ∧ v = .slice none 0 0 ∧ ∀ t ∈ l, ¬ Cand bd ab t) ∨ (f = true ∧ ∃ t ∈ l, v = t.1 ∧ Cand bd ab t ∧ ∀ u ∈ l, Cand bd ab u → ¬ ltL u.2.1 t.2.1)

theorem mem_snoc {α : Type} {l : List α} {x y : α} : y ∈ l ++ [x] ↔ y ∈ l ∨ y = x := by simp

theorem Found.skip {bd : Bool} {ab : List Int} {l : List Tr} {v : Value} {f : Bool} {t : Tr} (h : Found bd ab l v f) (ht : ¬ Cand bd ab t) : Found bd ab (l ++ [t]) v f := by
  rcases h with ⟨h1, h2, h3⟩ | ⟨h1, s, hs, h2, h3, h4⟩
  · exact .inl ⟨h1, h2, fun u hu => by rcases mem_snoc.1 hu with hu | rfl; · exact h3 u hu
                                       · exact ht⟩
  · exact .inr ⟨h1, s, by simp [hs], h2, h3, fun u hu hc => by rcases mem_snoc.1 hu with hu | rfl; · exact h4 u hu hc
                                                               · exact absurd hc ht⟩

theorem Found.first {bd : Bool} {ab : List Int} {l : List Tr} {v : Value} {t : Tr} (h : Found bd ab l v false) (ht : Cand bd ab t) : Found bd ab (l ++ [t]) t.1 true := by
  rcases h with ⟨_, _, h3⟩ | ⟨h1, _⟩
  · exact .inr ⟨rfl, t, by simp, rfl, ht, fun u hu hc => by
      rcases mem_snoc.1 hu with hu | rfl
      · exact absurd hc (h3 u hu)
      · exact ltL_irrefl _⟩
  · cases h1

/-- the one that is held -/
theorem Found.held {bd : Bool} {ab : List Int} {l : List Tr} {v : Value} (h : Found bd ab l v true) : ∃ s ∈ l, v = s.1 ∧ Cand bd ab s ∧ ∀ u ∈ l, Cand bd ab u → ¬ ltL u.2.1 s.2.1 := by
  rcases h with ⟨h1, _⟩ | ⟨_, h⟩
  · cases h1
  · exact h

theorem Found.less {bd : Bool} {ab : List Int} {l : List Tr} {s t : Tr} (h : ∀ u ∈ l, Cand bd ab u → ¬ ltL u.2.1 s.2.1) (ht : Cand bd ab t) (hlt : ltL t.2.1 s.2.1) : Found bd ab (l ++ [t]) t.1 true :=
  .inr ⟨rfl, t, by simp, rfl, ht, fun u hu hc => by
    rcases mem_snoc.1 hu with hu | rfl
    · exact fun k => h u hu hc (ltL_trans k hlt)
    · exact ltL_irrefl _⟩

theorem Found.stays {bd : Bool} {ab : List Int} {l : List Tr} {s t : Tr} (hs : s ∈ l) (hc : Cand bd ab s) (h : ∀ u ∈ l, Cand bd ab u → ¬ ltL u.2.1 s.2.1) (hlt : ¬ ltL t.2.1 s.2.1) : Found bd ab (l ++ [t]) s.1 true :=
  .inr ⟨rfl, s, by simp [hs], rfl, hc, fun u hu hc2 => by
    rcases mem_snoc.1 hu with hu | rfl
    · exact h u hu hc2
    · exact hlt⟩

theorem take_snoc {α : Type} {l : List α} {i : Nat} {x : α} (h : l[i]? = some x) : l.take (i + 1) = l.take i ++ [x] := by
  rw [List.take_add_one, h]; rfl

theorem Parts.elem {w wr : World} {B : Nat} {v : Value} {ts : List Tr} (h : Parts w B v ts) (hB : B ≤ w.heap.size) (hb : Below w.heap.size w wr) {t : Tr} (ht : t ∈ ts) : Ints wr B B t.1 t.2.1 := by
  obtain ⟨_, _, _, _, _, hI, _⟩ := h
  exact (hI t ht).at hB hb

set_option maxHeartbeats 2000000 in
set_option maxRecDepth 100000 in
theorem least_false (B : Nat) (v av : Value) (ts : List Tr) (ab : List Int) (w : World) (hB : B ≤ w.heap.size) (hp : Parts w B v ts) (ha : Ints w B B av ab) :
    Calls Tryz.prog 171 #[v, av, .bool false] w fun e w' => ∃ v' f, e = .returned (.tuple #[v', .bool f]) ∧ Found false ab ts v' f ∧ (∃ a n c, v' = .slice a n c) ∧ Below w.heap.size w w' := by
  have HP : Hid (Parts w B v ts) := hp
  have HA : Hid (Ints w B B av ab) := ha
  obtain ⟨a, c, rfl, hc, hl, _⟩ := hp
  obtain ⟨aa, ac, rfl, _⟩ := ha
  go_enter Tryz.func171, Tryz.ntmps171
  go_wp2
  go_loopw [8, 9, 14] (fun s f u wr => ∃ (i : Nat) (fb : Bool), f = .bool fb ∧ u = .int .i64 (i : Int) ∧ i ≤ ts.length ∧ Found false ab (ts.take i) s fb ∧ Below w.heap.size w wr) (fun _ _ u _ => ts.length - (intOf u).toNat)
  case atStart => exact ⟨0, false, rfl, rfl, Nat.zero_le _, .inl ⟨rfl, rfl, by simp⟩, Below.refl _ _⟩
  case round =>
    obtain ⟨i, fb, rfl, rfl, hit, hF, hbl⟩ := hrel
    have HF : Hid (Found false ab (ts.take i) u8 fb) := hF
    have hs1 := hbl.size
    clear hF
    by_cases h1 : i < ts.length
    · obtain ⟨b, o, sa, sc, xs, k, rfl, hb, hs, c1, c2, hI⟩ := HP.out.get hB hbl h1
      have HI : Hid (Ints wr B B (.slice sa xs.length sc) xs) := hI
      have HAr : Hid (Ints wr B B (.slice aa ab.length ac) ab) := HA.out.at hB hbl
      have HS : Hid (ts[i]? = some (.slice sa xs.length sc, xs, k)) := hs
      clear hs hI
      have hu8 : ∃ a n c, u8 = .slice a n c := by
        rcases HF.out with ⟨_, h, _⟩ | ⟨_, t, ht, h, _⟩
        · exact ⟨_, _, _, h⟩
        · obtain ⟨x, y, h2, _⟩ := HP.out.elem hB hbl (List.mem_of_mem_take ht)
          exact ⟨_, _, _, h.trans h2⟩
      obtain ⟨ua, un, uc, rfl⟩ := hu8
      by_cases hk : 0 < k
      · have hk2 : decide (0 < k) = true := decide_eq_true hk
        have hcand : Hid (Cand false ab (.slice sa xs.length sc, xs, k)) := ⟨hk, fun h => by cases h⟩
        cases fb with
        | false =>
          have HN : Hid (Found false ab (ts.take (i + 1)) (.slice sa xs.length sc) true) := by rw [Hid, take_snoc HS.out]; exact HF.out.first hcand.out
          go_wp2
          go_roundw
          case rel => exact ⟨i + 1, true, rfl, by go_num, h1, HN.out, bal hbl _⟩
          case measure => simp [intOf]; omega
        | true =>
          obtain ⟨⟨hv, xo, ko⟩, hsm, he, hco, hmin⟩ := HF.out.held
          have HIo : Hid (Ints wr B B hv xo) := HP.out.elem hB hbl (List.mem_of_mem_take hsm)
          simp only at he
          subst he
          obtain ⟨r2, HC2⟩ : ∃ r2, Hid (cmpT xs xo = r2) := ⟨_, rfl⟩
          have HM : Hid ((.slice ua un uc, xo, ko) ∈ ts.take i ∧ Cand false ab (.slice ua un uc, xo, ko) ∧ ∀ u ∈ ts.take i, Cand false ab u → ¬ ltL u.2.1 xo) := ⟨hsm, hco, hmin⟩
          clear hsm hco hmin
          by_cases hr2 : r2 < 0
          · have HN : Hid (Found false ab (ts.take (i + 1)) (.slice sa xs.length sc) true) := by
              rw [Hid, take_snoc HS.out]
              exact Found.less (s := (.slice ua un uc, xo, ko)) HM.out.2.2 hcand.out (by show cmpT xs xo < 0; rw [HC2.out]; exact hr2)
            go_wp2_with fail
            refine (refCompare_any B B B _ _ xs xo _ ?_ ?_ r2 HC2.out).mono ?_
            · exact HI.out.at (by omega) (ba _ _)
            · exact HIo.out.at (by omega) (ba _ _)
            rintro e w2 ⟨rfl, q2, rfl⟩
            go_wp2
            go_roundw
            case rel => exact ⟨i + 1, true, rfl, by go_num, h1, HN.out, below_drewN (bal hbl _) _⟩
            case measure => simp [intOf]; omega
          · have HN : Hid (Found false ab (ts.take (i + 1)) (.slice ua un uc) true) := by
              rw [Hid, take_snoc HS.out]
              exact Found.stays (s := (.slice ua un uc, xo, ko)) HM.out.1 HM.out.2.1 HM.out.2.2 (by show ¬ cmpT xs xo < 0; rw [HC2.out]; exact hr2)
            go_wp2_with fail
            refine (refCompare_any B B B _ _ xs xo _ ?_ ?_ r2 HC2.out).mono ?_
            · exact HI.out.at (by omega) (ba _ _)
            · exact HIo.out.at (by omega) (ba _ _)
            rintro e w2 ⟨rfl, q2, rfl⟩
            go_wp2
            go_roundw
            case rel => exact ⟨i + 1, true, rfl, by go_num, h1, HN.out, below_drewN (bal hbl _) _⟩
            case measure => simp [intOf]; omega
      · have HN : Hid (Found false ab (ts.take (i + 1)) (.slice ua un uc) fb) := by
          rw [Hid, take_snoc HS.out]
          exact HF.out.skip (fun h => hk h.1)
        go_wp2
        go_roundw
        case rel => exact ⟨i + 1, fb, rfl, by go_num, h1, HN.out, bal hbl _⟩
        case measure => simp [intOf]; omega
    · have hii : i = ts.length := by omega
      have HN : Hid (Found false ab ts u8 fb) := by have := HF.out; rwa [hii, List.take_length] at this
      have hu8 : ∃ a n c, u8 = .slice a n c := by
        rcases HN.out with ⟨_, h, _⟩ | ⟨_, t, ht, h, _⟩
        · exact ⟨_, _, _, h⟩
        · obtain ⟨x, y, h2, _⟩ := HP.out.elem hB hbl ht
          exact ⟨_, _, _, h.trans h2⟩
      obtain ⟨ua, un, uc, rfl⟩ := hu8
      go_wp2
      exact bodyPost_ret (v := .tuple #[.slice ua un uc, .bool fb]) (by simp [results, Tryz.results171, go_sem]) rfl ⟨_, _, rfl, HN.out, ⟨_, _, _, rfl⟩, hbl⟩

set_option maxHeartbeats 2000000 in
set_option maxRecDepth 100000 in
theorem least_true (B : Nat) (v av : Value) (ts : List Tr) (ab : List Int) (w : World) (hB : B ≤ w.heap.size) (hp : Parts w B v ts) (ha : Ints w B B av ab) :
    Calls Tryz.prog 171 #[v, av, .bool true] w fun e w' => ∃ v' f, e = .returned (.tuple #[v', .bool f]) ∧ Found true ab ts v' f ∧ (∃ a n c, v' = .slice a n c) ∧ Below w.heap.size w w' := by
  have HP : Hid (Parts w B v ts) := hp
  have HA : Hid (Ints w B B av ab) := ha
  obtain ⟨a, c, rfl, hc, hl, _⟩ := hp
  obtain ⟨aa, ac, rfl, _⟩ := ha
  go_enter Tryz.func171, Tryz.ntmps171
  go_wp2
  go_loopw [8, 9, 14] (fun s f u wr => ∃ (i : Nat) (fb : Bool), f = .bool fb ∧ u = .int .i64 (i : Int) ∧ i ≤ ts.length ∧ Found true ab (ts.take i) s fb ∧ Below w.heap.size w wr) (fun _ _ u _ => ts.length - (intOf u).toNat)
  case atStart => exact ⟨0, false, rfl, rfl, Nat.zero_le _, .inl ⟨rfl, rfl, by simp⟩, Below.refl _ _⟩
  case round =>
    obtain ⟨i, fb, rfl, rfl, hit, hF, hbl⟩ := hrel
    have HF : Hid (Found true ab (ts.take i) u8 fb) := hF
    have hs1 := hbl.size
    clear hF
    by_cases h1 : i < ts.length
    · obtain ⟨b, o, sa, sc, xs, k, rfl, hb, hs, c1, c2, hI⟩ := HP.out.get hB hbl h1
      have HI : Hid (Ints wr B B (.slice sa xs.length sc) xs) := hI
      have HAr : Hid (Ints wr B B (.slice aa ab.length ac) ab) := HA.out.at hB hbl
      have HS : Hid (ts[i]? = some (.slice sa xs.length sc, xs, k)) := hs
      clear hs hI
      have hu8 : ∃ a n c, u8 = .slice a n c := by
        rcases HF.out with ⟨_, h, _⟩ | ⟨_, t, ht, h, _⟩
        · exact ⟨_, _, _, h⟩
        · obtain ⟨x, y, h2, _⟩ := HP.out.elem hB hbl (List.mem_of_mem_take ht)
          exact ⟨_, _, _, h.trans h2⟩
      obtain ⟨ua, un, uc, rfl⟩ := hu8
      by_cases hk : 0 < k
      · have hk2 : decide (0 < k) = true := decide_eq_true hk
        obtain ⟨r1, HC⟩ : ∃ r1, Hid (cmpT xs ab = r1) := ⟨_, rfl⟩
        by_cases hr1 : 0 < r1
        · have hcand : Hid (Cand true ab (.slice sa xs.length sc, xs, k)) := ⟨hk, fun _ => by show cmpT ab xs < 0; rw [cmpT_swap xs ab, HC.out]; omega⟩
          cases fb with
          | false =>
            have HN : Hid (Found true ab (ts.take (i + 1)) (.slice sa xs.length sc) true) := by rw [Hid, take_snoc HS.out]; exact HF.out.first hcand.out
            go_wp2_with fail
            refine (refCompare_any B B B _ _ xs ab _ ?_ ?_ r1 HC.out).mono ?_
            · exact HI.out.at (by omega) (ba _ _)
            · exact HAr.out.at (by omega) (ba _ _)
            rintro e w1 ⟨rfl, q, rfl⟩
            go_wp2
            go_roundw
            case rel => exact ⟨i + 1, true, rfl, by go_num, h1, HN.out, below_drewN (bal hbl _) _⟩
            case measure => simp [intOf]; omega
          | true =>
            obtain ⟨⟨hv, xo, ko⟩, hsm, he, hco, hmin⟩ := HF.out.held
            have HIo : Hid (Ints wr B B hv xo) := HP.out.elem hB hbl (List.mem_of_mem_take hsm)
            simp only at he
            subst he
            obtain ⟨r2, HC2⟩ : ∃ r2, Hid (cmpT xs xo = r2) := ⟨_, rfl⟩
            have HM : Hid ((.slice ua un uc, xo, ko) ∈ ts.take i ∧ Cand true ab (.slice ua un uc, xo, ko) ∧ ∀ u ∈ ts.take i, Cand true ab u → ¬ ltL u.2.1 xo) := ⟨hsm, hco, hmin⟩
            clear hsm hco hmin
            by_cases hr2 : r2 < 0
            · have HN : Hid (Found true ab (ts.take (i + 1)) (.slice sa xs.length sc) true) := by
                rw [Hid, take_snoc HS.out]
                exact Found.less (s := (.slice ua un uc, xo, ko)) HM.out.2.2 hcand.out (by show cmpT xs xo < 0; rw [HC2.out]; exact hr2)
              go_wp2_with fail
              refine (refCompare_any B B B _ _ xs ab _ ?_ ?_ r1 HC.out).mono ?_
              · exact HI.out.at (by omega) (ba _ _)
              · exact HAr.out.at (by omega) (ba _ _)
              rintro e w1 ⟨rfl, q, rfl⟩
              go_wp2_with fail
              refine (refCompare_any B B B _ _ xs xo _ ?_ ?_ r2 HC2.out).mono ?_
              · exact HI.out.at (by omega) (below_drewN (ba _ _) q)
              · exact HIo.out.at (by omega) (below_drewN (ba _ _) q)
              rintro e w2 ⟨rfl, q2, rfl⟩
              go_wp2
              go_roundw
              case rel => exact ⟨i + 1, true, rfl, by go_num, h1, HN.out, below_drewN (bal hbl _) _⟩
              case measure => simp [intOf]; omega
            · have HN : Hid (Found true ab (ts.take (i + 1)) (.slice ua un uc) true) := by
                rw [Hid, take_snoc HS.out]
                exact Found.stays (s := (.slice ua un uc, xo, ko)) HM.out.1 HM.out.2.1 HM.out.2.2 (by show ¬ cmpT xs xo < 0; rw [HC2.out]; exact hr2)
              go_wp2_with fail
              refine (refCompare_any B B B _ _ xs ab _ ?_ ?_ r1 HC.out).mono ?_
              · exact HI.out.at (by omega) (ba _ _)
              · exact HAr.out.at (by omega) (ba _ _)
              rintro e w1 ⟨rfl, q, rfl⟩
              go_wp2_with fail
              refine (refCompare_any B B B _ _ xs xo _ ?_ ?_ r2 HC2.out).mono ?_
              · exact HI.out.at (by omega) (below_drewN (ba _ _) q)
              · exact HIo.out.at (by omega) (below_drewN (ba _ _) q)
              rintro e w2 ⟨rfl, q2, rfl⟩
              go_wp2
              go_roundw
              case rel => exact ⟨i + 1, true, rfl, by go_num, h1, HN.out, below_drewN (bal hbl _) _⟩
              case measure => simp [intOf]; omega
        · have HN : Hid (Found true ab (ts.take (i + 1)) (.slice ua un uc) fb) := by
            rw [Hid, take_snoc HS.out]
            exact HF.out.skip (fun h => hr1 (by have h2 := h.2 rfl; have h3 : cmpT ab xs < 0 := h2; rw [cmpT_swap xs ab, HC.out] at h3; omega))
          go_wp2_with fail
          refine (refCompare_any B B B _ _ xs ab _ ?_ ?_ r1 HC.out).mono ?_
          · exact HI.out.at (by omega) (ba _ _)
          · exact HAr.out.at (by omega) (ba _ _)
          rintro e w1 ⟨rfl, q, rfl⟩
          go_wp2
          go_roundw
          case rel => exact ⟨i + 1, fb, rfl, by go_num, h1, HN.out, below_drewN (bal hbl _) _⟩
          case measure => simp [intOf]; omega
      · have HN : Hid (Found true ab (ts.take (i + 1)) (.slice ua un uc) fb) := by
          rw [Hid, take_snoc HS.out]
          exact HF.out.skip (fun h => hk h.1)
        go_wp2
        go_roundw
        case rel => exact ⟨i + 1, fb, rfl, by go_num, h1, HN.out, bal hbl _⟩
        case measure => simp [intOf]; omega
    · have hii : i = ts.length := by omega
      have HN : Hid (Found true ab ts u8 fb) := by have := HF.out; rwa [hii, List.take_length] at this
      have hu8 : ∃ a n c, u8 = .slice a n c := by
        rcases HN.out with ⟨_, h, _⟩ | ⟨_, t, ht, h, _⟩
        · exact ⟨_, _, _, h⟩
        · obtain ⟨x, y, h2, _⟩ := HP.out.elem hB hbl ht
          exact ⟨_, _, _, h.trans h2⟩
      obtain ⟨ua, un, uc, rfl⟩ := hu8
      go_wp2
      exact bodyPost_ret (v := .tuple #[.slice ua un uc, .bool fb]) (by simp [results, Tryz.results171, go_sem]) rfl ⟨_, _, rfl, HN.out, ⟨_, _, _, rfl⟩, hbl⟩
end Go.Proofs.YtlndlpjadajelaaGreat
