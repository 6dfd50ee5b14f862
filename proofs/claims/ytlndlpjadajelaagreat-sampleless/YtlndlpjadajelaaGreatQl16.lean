import Derived.Test.YtlndlpjadajelaaGreatQl02
import Derived.Test.YtlndlpjadajelaaGreatQl15
import Derived.Test.YtlndlpjadajelaaGreatQl12
import Derived.Test.YtlndlpjadajelaaGreatQl10
namespace Go.Proofs.YtlndlpjadajelaaGreat
open Go.RowKit Go.Proofs.YtlndlpjadajelaaGreat.Ds

/-! ### chances as rational numbers -/
theorem int_q {a b : Int} : (a : Rat) ≤ (b : Rat) ↔ a ≤ b := Rat.intCast_le_intCast
theorem int_q0 {a : Int} (h : 0 < a) : (0 : Rat) < (a : Rat) := by
  have := Rat.intCast_lt_intCast.2 h
  simpa using this
theorem int_qn {a : Int} (h : 0 ≤ a) : (0 : Rat) ≤ (a : Rat) := by
  have := Rat.intCast_le_intCast.2 h
  simpa using this
/-- how likely something is -/
def chR (l : List Pt) (o : List Int) : Rat := (wt l o : Rat) / (tot l : Rat)
theorem chR_mul {l : List Pt} (h : Dis l) (o : List Int) : chR l o * (tot l : Rat) = (wt l o : Rat) := by
  have := int_q0 (tot_pos2 h.pos h.ne)
  exact Rat.div_mul_cancel (by grind)
theorem chR_nn {l : List Pt} (h : Dis l) (o : List Int) : 0 ≤ chR l o := by
  have h1 := int_q0 (tot_pos2 h.pos h.ne)
  have h2 := int_qn ((Nn.of_pos h.pos).wt_le o).1
  have h3 := chR_mul h o
  rcases Rat.le_total (a := 0) (b := chR l o) with c | c
  · exact c
  · have := Rat.mul_le_mul_of_nonneg_right c (Rat.le_of_lt h1)
    rw [h3, Rat.zero_mul] at this
    have e : (wt l o : Rat) = 0 := Rat.le_antisymm this h2
    rw [e] at h3
    rcases Rat.mul_eq_zero.1 h3 with h | h
    · rw [h]; exact Rat.le_refl
    · grind
/-- a sum by weights -/
def smQ (f : List Int → Rat) : List Pt → Rat
  | [] => 0
  | p :: l => (p.2 : Rat) * f p.1 + smQ f l
theorem smQ_congr {f g : List Int → Rat} {l : List Pt} (h : ∀ p ∈ l, f p.1 = g p.1) : smQ f l = smQ g l := by
  induction l with
  | nil => rfl
  | cons p l ih => rw [smQ, smQ, h p (by simp), ih fun q hq => h q (by simp [hq])]
theorem smQ_app (f : List Int → Rat) (l m : List Pt) : smQ f (l ++ m) = smQ f l + smQ f m := by
  induction l with
  | nil => simp [smQ, Rat.zero_add]
  | cons p l ih => rw [List.cons_append, smQ, smQ, ih]; grind
theorem smQ_ins (f : List Int → Rat) (p : Pt) (l : List Pt) : smQ f (ins p l) = (p.2 : Rat) * f p.1 + smQ f l := by
  induction l with
  | nil =>
    rw [ins]
    rfl
  | cons q l ih =>
    rw [ins]
    split
    · rw [smQ]
    · split
      · rename_i h1 h2
        simp only [smQ, h2, Rat.intCast_add]
        grind
      · rw [smQ, smQ, ih]; grind
theorem smQ_gath (f : List Int → Rat) (l : List Pt) : smQ f (gath l) = smQ f l := by
  induction l with
  | nil => rfl
  | cons p l ih =>
    rw [gath, smQ]
    split
    · rename_i h
      rw [ih, h]
      simp [Rat.zero_mul, Rat.zero_add]
    · rw [smQ_ins, ih]
theorem smQ_grow (f : List Int → Rat) (g : Int) (l : List Pt) : smQ f (grow g l) = (g : Rat) * smQ f l := by
  induction l with
  | nil => simp [grow, smQ, Rat.mul_zero]
  | cons p l ih =>
    have e : grow g (p :: l) = (p.1, g * p.2) :: grow g l := rfl
    rw [e, smQ, smQ, ih, Rat.intCast_mul]
    grind
/-- what is made of a list has its sums -/
theorem smQ_make (f : List Int → Rat) {L l : List Pt} (h : makeT L = (l, 0)) : ∃ g : Int, 0 < g ∧ smQ f L = (g : Rat) * smQ f l ∧ tot L = g * tot l := by
  unfold makeT at h
  split at h
  · rename_i hok
    have hn : Nn L := (all_okP hok).1
    have hp := gath_pos hn
    have hne : gath L ≠ [] := by intro h0; rw [h0] at h; simp [lowT] at h
    have hl : l = cut (dv (gath L)) (gath L) := by
      unfold lowT at h
      rw [if_neg hne] at h
      split at h
      · simp at h
      · simp at h; exact h.symm
    have hg : grow (dv (gath L)) l = gath L := by rw [hl]; exact cut_back fun p hp => dv_dvd_int hp
    have hd := dv_pos hp hne
    refine ⟨dv (gath L), by omega, ?_, ?_⟩
    · have e := congrArg (smQ f) hg
      rw [smQ_grow, smQ_gath] at e
      exact e.symm
    · have e := congrArg tot hg
      rw [grow_tot, gath_tot] at e
      exact e.symm
  · simp at h
theorem smQ_lst (f : List Int → Rat) (u d : Int) (k : Nat) : smQ f (Sb.lst u d k) = Sb.sumQ (fun s => (Sb.wgt u d k s : Rat) * f [(s : Int)]) (2 ^ k) := by
  unfold Sb.lst
  have key : ∀ n, smQ f ((List.range n).map fun (s : Nat) => (([(s : Int)], Sb.wgt u d k s) : Pt)) = Sb.sumQ (fun s => (Sb.wgt u d k s : Rat) * f [(s : Int)]) n := by
    intro n
    induction n with
    | zero => rfl
    | succ n ih =>
      rw [List.range_succ, List.map_append, smQ_app, ih, Sb.sumQ]
      simp [smQ, Rat.add_zero]
  exact key _
theorem tot_q (l : List Pt) : (tot l : Rat) = smQ (fun _ => 1) l := by
  induction l with
  | nil => simp [tot, smQ]
  | cons p l ih => rw [tot_cons, smQ, Rat.intCast_add, ih]; grind

/-- what chain tells -/
theorem ch_told {thn : List Int → List Pt × Int} {l l' : List Pt} (hl : Dis l) (hd : ∀ p ∈ l, (thn p.1).2 = 0 → Dis (thn p.1).1) (h : chT thn l = (l', 0)) : Dis l' ∧ (∀ p ∈ l, (thn p.1).2 = 0) ∧ ∀ o, chR l' o * (tot l : Rat) = smQ (fun x => chR (thn x).1 o) l := by
  unfold chT at h
  split at h
  · rename_i h1
    split at h
    · simp at h
    · obtain ⟨A, hA⟩ : ∃ A, (allT thn 1 l).1 = A := ⟨_, rfl⟩
      rw [hA] at h
      obtain ⟨_, a2, a3⟩ := allT_ok (thn := thn) (A' := A) (Prod.ext hA h1) (by omega) hd
      have hF : ∀ p ∈ l, Dis (thn p.1).1 := fun p hp => hd p hp (a3 p hp).1
      have hsn : Nn (spr (fun x => (thn x).1) A l) := spr_nn _ _ (Nn.of_pos hl.pos) (fun p hp => Nn.of_pos (hF p hp).pos) (by omega)
      have hok : ∀ o, 0 < wt (spr (fun x => (thn x).1) A l) o → okO o = true := by
        intro o ho
        obtain ⟨q, hq, rfl⟩ := wt_pos_mem ho
        obtain ⟨p, hp, hq⟩ := List.mem_flatMap.1 hq
        obtain ⟨r, hr, rfl⟩ := List.mem_map.1 hq
        show Ds.okO r.1 = true
        exact (hF p hp).okO hr
      obtain ⟨d', g, hg, hw, ht⟩ := low_told hsn hok h
      refine ⟨d', fun p hp => (a3 p hp).1, fun o => ?_⟩
      have e1 : (g : Rat) * (wt l' o : Rat) = (A : Rat) * smQ (fun x => chR (thn x).1 o) l := by
        rw [← Rat.intCast_mul, ← hw, spr_is]
        have key : ∀ m : List Pt, (∀ p ∈ m, Dis (thn p.1).1 ∧ tot (thn p.1).1 ∣ A) → ((sumW (fun x => A / tot (thn x).1 * wt (thn x).1 o) m : Int) : Rat) = (A : Rat) * smQ (fun x => chR (thn x).1 o) m := by
          intro m
          induction m with
          | nil => intro _; simp [sumW, smQ, Rat.mul_zero]
          | cons p m ih =>
            intro hm
            obtain ⟨hdp, hv⟩ := hm p (by simp)
            rw [sumW, smQ, Rat.intCast_add, ih fun q hq => hm q (by simp [hq]), Rat.intCast_mul, Rat.intCast_mul]
            have t0 := int_q0 (tot_pos2 hdp.pos hdp.ne)
            have e2 : ((A / tot (thn p.1).1 : Int) : Rat) * (tot (thn p.1).1 : Rat) = (A : Rat) := by
              rw [← Rat.intCast_mul, Int.ediv_mul_cancel hv]
            have e3 := chR_mul hdp o
            rw [← e3]
            grind
        exact key l fun p hp => ⟨hF p hp, (a3 p hp).2⟩
      have e2 : (g : Rat) * (tot l' : Rat) = (A : Rat) * (tot l : Rat) := by
        rw [← Rat.intCast_mul, ← ht, spr_tot (fun x => (thn x).1) A fun p hp => (a3 p hp).2, Rat.intCast_mul]
      have t1 := int_q0 (tot_pos2 d'.pos d'.ne)
      have gq := int_q0 hg
      have aq : (0 : Rat) < (A : Rat) := int_q0 (by omega)
      have e3 := chR_mul d' o
      rw [← e3] at e1
      have e4 : (A : Rat) * (chR l' o * (tot l : Rat)) = (A : Rat) * smQ (fun x => chR (thn x).1 o) l := by
        rw [← e1]
        have : (A : Rat) * (chR l' o * (tot l : Rat)) = chR l' o * ((A : Rat) * (tot l : Rat)) := by grind
        rw [this, ← e2]
        grind
      have e5 : (A : Rat) * (chR l' o * (tot l : Rat) - smQ (fun x => chR (thn x).1 o) l) = 0 := by grind
      rcases Rat.mul_eq_zero.1 e5 with h | h <;> grind
  · rename_i h1
    simp only [Prod.mk.injEq] at h
    exact absurd h.2 h1
end Go.Proofs.YtlndlpjadajelaaGreat

namespace Go.Proofs.YtlndlpjadajelaaGreat
open Go.RowKit Go.Proofs.YtlndlpjadajelaaGreat.Ds

/-- has it a number there -/
def hasP (place : Int) (p : Pt) : Bool := decide (0 ≤ place ∧ place < (p.1.length : Int))
/-- all numbers there, each times its weight -/
def msum (place : Int) : List Pt → Int
  | [] => 0
  | p :: l => p.1.getD place.toNat 0 * p.2 + msum place l

theorem msum_append (place : Int) (l k : List Pt) : msum place (l ++ k) = msum place l + msum place k := by
  induction l with
  | nil => simp [msum]
  | cons p l ih => simp only [List.cons_append, msum, ih]; omega
theorem msum_take {place : Int} {l : List Pt} {i : Nat} {p : Pt} (h : l[i]? = some p) : msum place (l.take (i + 1)) = msum place (l.take i) + p.1.getD place.toNat 0 * p.2 := by
  rw [List.take_add_one, h, msum_append]; simp [msum]

theorem okN_bd {n : Int} (h : okN n = true) : -1073741824 ≤ n ∧ n ≤ 1073741824 := by
  unfold okN at h; exact of_decide_eq_true h

theorem okP_at {p : Pt} (h : okP p = true) (i : Nat) : -1073741824 ≤ p.1.getD i 0 ∧ p.1.getD i 0 ≤ 1073741824 := by
  have h2 : ∀ x ∈ p.1, okN x = true := by
    unfold okP okO at h
    simp only [Bool.and_eq_true, List.all_eq_true] at h
    exact h.2.2
  rw [List.getD_eq_getElem?_getD]
  cases hx : p.1[i]? with
  | none => simp
  | some x => exact okN_bd (h2 x (List.mem_of_getElem? hx))

theorem mul_le_abs {x k : Int} (h : -1073741824 ≤ x ∧ x ≤ 1073741824) (hk : 0 ≤ k) : -1073741824 * k ≤ x * k ∧ x * k ≤ 1073741824 * k :=
  ⟨Int.mul_le_mul_of_nonneg_right h.1 hk, Int.mul_le_mul_of_nonneg_right h.2 hk⟩

theorem msum_bd {place : Int} {l : List Pt} (ho : l.all okP = true) : -1073741824 * tot l ≤ msum place l ∧ msum place l ≤ 1073741824 * tot l := by
  induction l with
  | nil => simp [msum]
  | cons p l ih =>
    simp only [List.all_cons, Bool.and_eq_true] at ho
    have h1 := ih ho.2
    have hk : 0 ≤ p.2 := (all_okP (l := [p]) (by simp [ho.1])).1 p (by simp)
    have h2 := mul_le_abs (okP_at ho.1 place.toNat) hk
    simp only [msum, tot_cons]
    omega

theorem all_take_true {α : Type} {l : List α} {f : α → Bool} (h : l.all f = true) (i : Nat) : (l.take i).all f = true := by
  rw [List.all_eq_true] at *
  exact fun x hx => h x (List.mem_of_mem_take hx)

theorem tdiv_abs (a b : Int) : (a.tdiv b).natAbs ≤ a.natAbs := by
  rw [Int.natAbs_tdiv]; exact Nat.div_le_self _ _

end Go.Proofs.YtlndlpjadajelaaGreat

namespace Go.Proofs.YtlndlpjadajelaaGreat
open Go.RowKit Go.Proofs.YtlndlpjadajelaaGreat.Ds

/-- what 'least' looks for -/
def Cand (bd : Bool) (ab : List Int) (t : Tr) : Prop := 0 < t.2.2 ∧ (bd = true → ltL ab t.2.1)

/-- what 'least' has found among some -/
def Found (bd : Bool) (ab : List Int) (l : List Tr) (v : Value) (f : Bool) : Prop :=
  (f = false ∧ v = .slice none 0 0 ∧ ∀ t ∈ l, ¬ Cand bd ab t) ∨ (f = true ∧ ∃ t ∈ l, v = t.1 ∧ Cand bd ab t ∧ ∀ u ∈ l, Cand bd ab u → ¬ ltL u.2.1 t.2.1)

theorem mem_snoc {α : Type} {l : List α} {x y : α} : y ∈ l ++ [x] ↔ y ∈ l ∨ y = x := by simp

theorem Found.skip {bd : Bool} {ab : List Int} {l : List Tr} {v : Value} {f : Bool} {t : Tr} (h : Found bd ab l v f) (ht : ¬ Cand bd ab t) : Found bd ab (l ++ [t]) v f := by
  rcases h with ⟨h1, h2, h3⟩ | ⟨h1, s, hs, h2, h3, h4⟩
  · exact .inl ⟨h1, h2, fun u hu => by rcases mem_snoc.1 hu with hu | rfl; · exact h3 u hu
                                       · exact ht⟩
  · exact .inr ⟨h1, s, by simp [hs], h2, h3, fun u hu hc => by rcases mem_snoc.1 hu with hu | rfl; · exact h4 u hu hc
                                                               · exact absurd hc ht⟩

theorem Found.first {bd : Bool} {ab : List Int} {l : List Tr} {v : Value} {t : Tr} (h : Found bd ab l v false) (ht : Cand bd ab t) : Found bd ab (l ++ [t]) t.1 true := by
  rcases h with ⟨_, _, h3⟩ | ⟨h1, _⟩
  · exact .inr ⟨rfl, t, by simp, rfl, ht, fun u hu hc => by
      rcases mem_snoc.1 hu with hu | rfl
      · exact absurd hc (h3 u hu)
      · exact ltL_irrefl _⟩
  · cases h1

/-- the one that is held -/
theorem Found.held {bd : Bool} {ab : List Int} {l : List Tr} {v : Value} (h : Found bd ab l v true) : ∃ s ∈ l, v = s.1 ∧ Cand bd ab s ∧ ∀ u ∈ l, Cand bd ab u → ¬ ltL u.2.1 s.2.1 := by
  rcases h with ⟨h1, _⟩ | ⟨_, h⟩
  · cases h1
  · exact h

theorem Found.less {bd : Bool} {ab : List Int} {l : List Tr} {s t : Tr} (h : ∀ u ∈ l, Cand bd ab u → ¬ ltL u.2.1 s.2.1) (ht : Cand bd ab t) (hlt : ltL t.2.1 s.2.1) : Found bd ab (l ++ [t]) t.1 true :=
  .inr ⟨rfl, t, by simp, rfl, ht, fun u hu hc => by
    rcases mem_snoc.1 hu with hu | rfl
    · exact fun k => h u hu hc (ltL_trans k hlt)
    · exact ltL_irrefl _⟩

theorem Found.stays {bd : Bool} {ab : List Int} {l : List Tr} {s t : Tr} (hs : s ∈ l) (hc : Cand bd ab s) (h : ∀ u ∈ l, Cand bd ab u → ¬ ltL u.2.1 s.2.1) (hlt : ¬ ltL t.2.1 s.2.1) : Found bd ab (l ++ [t]) s.1 true :=
  .inr ⟨rfl, s, by simp [hs], rfl, hc, fun u hu hc2 => by
    rcases mem_snoc.1 hu with hu | rfl
    · exact h u hu hc2
    · exact hlt⟩

theorem take_snoc {α : Type} {l : List α} {i : Nat} {x : α} (h : l[i]? = some x) : l.take (i + 1) = l.take i ++ [x] := by
  rw [List.take_add_one, h]; rfl

theorem Parts.elem {w wr : World} {B : Nat} {v : Value} {ts : List Tr} (h : Parts w B v ts) (hB : B ≤ w.heap.size) (hb : Below w.heap.size w wr) {t : Tr} (ht : t ∈ ts) : Ints wr B B t.1 t.2.1 := by
  obtain ⟨_, _, _, _, _, hI, _⟩ := h
  exact (hI t ht).at hB hb

set_option maxHeartbeats 2000000 in
set_option maxRecDepth 100000 in
theorem least_false (B : Nat) (v av : Value) (ts : List Tr) (ab : List Int) (w : World) (hB : B ≤ w.heap.size) (hp : Parts w B v ts) (ha : Ints w B B av ab) :
    Calls Tryz.prog 171 #[v, av, .bool false] w fun e w' => ∃ v' f, e = .returned (.tuple #[v', .bool f]) ∧ Found false ab ts v' f ∧ (∃ a n c, v' = .slice a n c) ∧ Below w.heap.size w w' := by
  have HP : Hid (Parts w B v ts) := hp
  have HA : Hid (Ints w B B av ab) := ha
  obtain ⟨a, c, rfl, hc, hl, _⟩ := hp
  obtain ⟨aa, ac, rfl, _⟩ := ha
  go_enter Tryz.func171, Tryz.ntmps171
  go_wp2
  go_loopw [8, 9, 14] (fun s f u wr => ∃ (i : Nat) (fb : Bool), f = .bool fb ∧ u = .int .i64 (i : Int) ∧ i ≤ ts.length ∧ Found false ab (ts.take i) s fb ∧ Below w.heap.size w wr) (fun _ _ u _ => ts.length - (intOf u).toNat)
  case atStart => exact ⟨0, false, rfl, rfl, Nat.zero_le _, .inl ⟨rfl, rfl, by simp⟩, Below.refl _ _⟩
  case round =>
    obtain ⟨i, fb, rfl, rfl, hit, hF, hbl⟩ := hrel
    have HF : Hid (Found false ab (ts.take i) u8 fb) := hF
    have hs1 := hbl.size
    clear hF
    by_cases h1 : i < ts.length
    · obtain ⟨b, o, sa, sc, xs, k, rfl, hb, hs, c1, c2, hI⟩ := HP.out.get hB hbl h1
      have HI : Hid (Ints wr B B (.slice sa xs.length sc) xs) := hI
      have HAr : Hid (Ints wr B B (.slice aa ab.length ac) ab) := HA.out.at hB hbl
      have HS : Hid (ts[i]? = some (.slice sa xs.length sc, xs, k)) := hs
      clear hs hI
      have hu8 : ∃ a n c, u8 = .slice a n c := by
        rcases HF.out with ⟨_, h, _⟩ | ⟨_, t, ht, h, _⟩
        · exact ⟨_, _, _, h⟩
        · obtain ⟨x, y, h2, _⟩ := HP.out.elem hB hbl (List.mem_of_mem_take ht)
          exact ⟨_, _, _, h.trans h2⟩
      obtain ⟨ua, un, uc, rfl⟩ := hu8
      by_cases hk : 0 < k
      · have hk2 : decide (0 < k) = true := decide_eq_true hk
        have hcand : Hid (Cand false ab (.slice sa xs.length sc, xs, k)) := ⟨hk, fun h => by cases h⟩
        cases fb with
        | false =>
          have HN : Hid (Found false ab (ts.take (i + 1)) (.slice sa xs.length sc) true) := by rw [Hid, take_snoc HS.out]; exact HF.out.first hcand.out
          go_wp2
          go_roundw
          case rel => exact ⟨i + 1, true, rfl, by go_num, h1, HN.out, bal hbl _⟩
          case measure => simp [intOf]; omega
        | true =>
          obtain ⟨⟨hv, xo, ko⟩, hsm, he, hco, hmin⟩ := HF.out.held
          have HIo : Hid (Ints wr B B hv xo) := HP.out.elem hB hbl (List.mem_of_mem_take hsm)
          simp only at he
          subst he
          obtain ⟨r2, HC2⟩ : ∃ r2, Hid (cmpT xs xo = r2) := ⟨_, rfl⟩
          have HM : Hid ((.slice ua un uc, xo, ko) ∈ ts.take i ∧ Cand false ab (.slice ua un uc, xo, ko) ∧ ∀ u ∈ ts.take i, Cand false ab u → ¬ ltL u.2.1 xo) := ⟨hsm, hco, hmin⟩
          clear hsm hco hmin
          by_cases hr2 : r2 < 0
          · have HN : Hid (Found false ab (ts.take (i + 1)) (.slice sa xs.length sc) true) := by
              rw [Hid, take_snoc HS.out]
              exact Found.less (s := (.slice ua un uc, xo, ko)) HM.out.2.2 hcand.out (by show cmpT xs xo < 0; rw [HC2.out]; exact hr2)
            go_wp2_with fail
            refine (refCompare_any B B B _ _ xs xo _ ?_ ?_ r2 HC2.out).mono ?_
            · exact HI.out.at (by omega) (ba _ _)
            · exact HIo.out.at (by omega) (ba _ _)
            rintro e w2 ⟨rfl, q2, rfl⟩
            go_wp2
            go_roundw
            case rel => exact ⟨i + 1, true, rfl, by go_num, h1, HN.out, below_drewN (bal hbl _) _⟩
            case measure => simp [intOf]; omega
          · have HN : Hid (Found false ab (ts.take (i + 1)) (.slice ua un uc) true) := by
              rw [Hid, take_snoc HS.out]
              exact Found.stays (s := (.slice ua un uc, xo, ko)) HM.out.1 HM.out.2.1 HM.out.2.2 (by show ¬ cmpT xs xo < 0; rw [HC2.out]; exact hr2)
            go_wp2_with fail
            refine (refCompare_any B B B _ _ xs xo _ ?_ ?_ r2 HC2.out).mono ?_
            · exact HI.out.at (by omega) (ba _ _)
            · exact HIo.out.at (by omega) (ba _ _)
            rintro e w2 ⟨rfl, q2, rfl⟩
            go_wp2
            go_roundw
            case rel => exact ⟨i + 1, true, rfl, by go_num, h1, HN.out, below_drewN (bal hbl _) _⟩
            case measure => simp [intOf]; omega
      · have HN : Hid (Found false ab (ts.take (i + 1)) (.slice ua un uc) fb) := by
          rw [Hid, take_snoc HS.out]
          exact HF.out.skip (fun h => hk h.1)
        go_wp2
        go_roundw
        case rel => exact ⟨i + 1, fb, rfl, by go_num, h1, HN.out, bal hbl _⟩
        case measure => simp [intOf]; omega
    · have hii : i = ts.length := by omega
      have HN : Hid (Found false ab ts u8 fb) := by have := HF.out; rwa [hii, List.take_length] at this
      have hu8 : ∃ a n c, u8 = .slice a n c := by
        rcases HN.out with ⟨_, h, _⟩ | ⟨_, t, ht, h, _⟩
        · exact ⟨_, _, _, h⟩
        · obtain ⟨x, y, h2, _⟩ := HP.out.elem hB hbl ht
          exact ⟨_, _, _, h.trans h2⟩
      obtain ⟨ua, un, uc, rfl⟩ := hu8
      go_wp2
      exact bodyPost_ret (v := .tuple #[.slice ua un uc, .bool fb]) (by simp [results, Tryz.results171, go_sem]) rfl ⟨_, _, rfl, HN.out, ⟨_, _, _, rfl⟩, hbl⟩

set_option maxHeartbeats 2000000 in
set_option maxRecDepth 100000 in
theorem least_true (B : Nat) (v av : Value) (ts : List Tr) (ab : List Int) (w : World) (hB : B ≤ w.heap.size) (hp : Parts w B v ts) (ha : Ints w B B av ab) :
    Calls Tryz.prog 171 #[v, av, .bool true] w fun e w' => ∃ v' f, e = .returned (.tuple #[v', .bool f]) ∧ Found true ab ts v' f ∧ (∃ a n c, v' = .slice a n c) ∧ Below w.heap.size w w' := by
  have HP : Hid (Parts w B v ts) := hp
  have HA : Hid (Ints w B B av ab) := ha
  obtain ⟨a, c, rfl, hc, hl, _⟩ := hp
  obtain ⟨aa, ac, rfl, _⟩ := ha
  go_enter Tryz.func171, Tryz.ntmps171
  go_wp2
  go_loopw [8, 9, 14] (fun s f u wr => ∃ (i : Nat) (fb : Bool), f = .bool fb ∧ u = .int .i64 (i : Int) ∧ i ≤ ts.length ∧ Found true ab (ts.take i) s fb ∧ Below w.heap.size w wr) (fun _ _ u _ => ts.length - (intOf u).toNat)
  case atStart => exact ⟨0, false, rfl, rfl, Nat.zero_le _, .inl ⟨rfl, rfl, by simp⟩, Below.refl _ _⟩
  case round =>
    obtain ⟨i, fb, rfl, rfl, hit, hF, hbl⟩ := hrel
    have HF : Hid (Found true ab (ts.take i) u8 fb) := hF
    have hs1 := hbl.size
    clear hF
    by_cases h1 : i < ts.length
    · obtain ⟨b, o, sa, sc, xs, k, rfl, hb, hs, c1, c2, hI⟩ := HP.out.get hB hbl h1
      have HI : Hid (Ints wr B B (.slice sa xs.length sc) xs) := hI
      have HAr : Hid (Ints wr B B (.slice aa ab.length ac) ab) := HA.out.at hB hbl
      have HS : Hid (ts[i]? = some (.slice sa xs.length sc, xs, k)) := hs
      clear hs hI
      have hu8 : ∃ a n c, u8 = .slice a n c := by
        rcases HF.out with ⟨_, h, _⟩ | ⟨_, t, ht, h, _⟩
        · exact ⟨_, _, _, h⟩
        · obtain ⟨x, y, h2, _⟩ := HP.out.elem hB hbl (List.mem_of_mem_take ht)
          exact ⟨_, _, _, h.trans h2⟩
      obtain ⟨ua, un, uc, rfl⟩ := hu8
      by_cases hk : 0 < k
      · have hk2 : decide (0 < k) = true := decide_eq_true hk
        obtain ⟨r1, HC⟩ : ∃ r1, Hid (cmpT xs ab = r1) := ⟨_, rfl⟩
        by_cases hr1 : 0 < r1
        · have hcand : Hid (Cand true ab (.slice sa xs.length sc, xs, k)) := ⟨hk, fun _ => by show cmpT ab xs < 0; rw [cmpT_swap xs ab, HC.out]; omega⟩
          cases fb with
          | false =>
            have HN : Hid (Found true ab (ts.take (i + 1)) (.slice sa xs.length sc) true) := by rw [Hid, take_snoc HS.out]; exact HF.out.first hcand.out
            go_wp2_with fail
            refine (refCompare_any B B B _ _ xs ab _ ?_ ?_ r1 HC.out).mono ?_
            · exact HI.out.at (by omega) (ba _ _)
            · exact HAr.out.at (by omega) (ba _ _)
            rintro e w1 ⟨rfl, q, rfl⟩
            go_wp2
            go_roundw
            case rel => exact ⟨i + 1, true, rfl, by go_num, h1, HN.out, below_drewN (bal hbl _) _⟩
            case measure => simp [intOf]; omega
          | true =>
            obtain ⟨⟨hv, xo, ko⟩, hsm, he, hco, hmin⟩ := HF.out.held
            have HIo : Hid (Ints wr B B hv xo) := HP.out.elem hB hbl (List.mem_of_mem_take hsm)
            simp only at he
            subst he
            obtain ⟨r2, HC2⟩ : ∃ r2, Hid (cmpT xs xo = r2) := ⟨_, rfl⟩
            have HM : Hid ((.slice ua un uc, xo, ko) ∈ ts.take i ∧ Cand true ab (.slice ua un uc, xo, ko) ∧ ∀ u ∈ ts.take i, Cand true ab u → ¬ ltL u.2.1 xo) := ⟨hsm, hco, hmin⟩
            clear hsm hco hmin
            by_cases hr2 : r2 < 0
            · have HN : Hid (Found true ab (ts.take (i + 1)) (.slice sa xs.length sc) true) := by
                rw [Hid, take_snoc HS.out]
                exact Found.less (s := (.slice ua un uc, xo, ko)) HM.out.2.2 hcand.out (by show cmpT xs xo < 0; rw [HC2.out]; exact hr2)
              go_wp2_with fail
              refine (refCompare_any B B B _ _ xs ab _ ?_ ?_ r1 HC.out).mono ?_
              · exact HI.out.at (by omega) (ba _ _)
              · exact HAr.out.at (by omega) (ba _ _)
              rintro e w1 ⟨rfl, q, rfl⟩
              go_wp2_with fail
              refine (refCompare_any B B B _ _ xs xo _ ?_ ?_ r2 HC2.out).mono ?_
              · exact HI.out.at (by omega) (below_drewN (ba _ _) q)
              · exact HIo.out.at (by omega) (below_drewN (ba _ _) q)
              rintro e w2 ⟨rfl, q2, rfl⟩
              go_wp2
              go_roundw
              case rel => exact ⟨i + 1, true, rfl, by go_num, h1, HN.out, below_drewN (bal hbl _) _⟩
              case measure => simp [intOf]; omega
            · have HN : Hid (Found true ab (ts.take (i + 1)) (.slice ua un uc) true) := by
                rw [Hid, take_snoc HS.out]
                exact Found.stays (s := (.slice ua un uc, xo, ko)) HM.out.1 HM.out.2.1 HM.out.2.2 (by show ¬ cmpT xs xo < 0; rw [HC2.out]; exact hr2)
              go_wp2_with fail
              refine (refCompare_any B B B _ _ xs ab _ ?_ ?_ r1 HC.out).mono ?_
              · exact HI.out.at (by omega) (ba _ _)
              · exact HAr.out.at (by omega) (ba _ _)
              rintro e w1 ⟨rfl, q, rfl⟩
              go_wp2_with fail
              refine (refCompare_any B B B _ _ xs xo _ ?_ ?_ r2 HC2.out).mono ?_
              · exact HI.out.at (by omega) (below_drewN (ba _ _) q)
              · exact HIo.out.at (by omega) (below_drewN (ba _ _) q)
              rintro e w2 ⟨rfl, q2, rfl⟩
              go_wp2
              go_roundw
              case rel => exact ⟨i + 1, true, rfl, by go_num, h1, HN.out, below_drewN (bal hbl _) _⟩
              case measure => simp [intOf]; omega
        · have HN : Hid (Found true ab (ts.take (i + 1)) (.slice ua un uc) fb) := by
            rw [Hid, take_snoc HS.out]
            exact HF.out.skip (fun h => hr1 (by have h2 := h.2 rfl; have h3 : cmpT ab xs < 0 := h2; rw [cmpT_swap xs ab, HC.out] at h3; omega))
          go_wp2_with fail
          refine (refCompare_any B B B _ _ xs ab _ ?_ ?_ r1 HC.out).mono ?_
          · exact HI.out.at (by omega) (ba _ _)
          · exact HAr.out.at (by omega) (ba _ _)
          rintro e w1 ⟨rfl, q, rfl⟩
          go_wp2
          go_roundw
          case rel => exact ⟨i + 1, fb, rfl, by go_num, h1, HN.out, below_drewN (bal hbl _) _⟩
          case measure => simp [intOf]; omega
      · have HN : Hid (Found true ab (ts.take (i + 1)) (.slice ua un uc) fb) := by
          rw [Hid, take_snoc HS.out]
          exact HF.out.skip (fun h => hk h.1)
        go_wp2
        go_roundw
        case rel => exact ⟨i + 1, fb, rfl, by go_num, h1, HN.out, bal hbl _⟩
        case measure => simp [intOf]; omega
    · have hii : i = ts.length := by omega
      have HN : Hid (Found true ab ts u8 fb) := by have := HF.out; rwa [hii, List.take_length] at this
      have hu8 : ∃ a n c, u8 = .slice a n c := by
        rcases HN.out with ⟨_, h, _⟩ | ⟨_, t, ht, h, _⟩
        · exact ⟨_, _, _, h⟩
        · obtain ⟨x, y, h2, _⟩ := HP.out.elem hB hbl ht
          exact ⟨_, _, _, h.trans h2⟩
      obtain ⟨ua, un, uc, rfl⟩ := hu8
      go_wp2
      exact bodyPost_ret (v := .tuple #[.slice ua un uc, .bool fb]) (by simp [results, Tryz.results171, go_sem]) rfl ⟨_, _, rfl, HN.out, ⟨_, _, _, rfl⟩, hbl⟩
end Go.Proofs.YtlndlpjadajelaaGreat
