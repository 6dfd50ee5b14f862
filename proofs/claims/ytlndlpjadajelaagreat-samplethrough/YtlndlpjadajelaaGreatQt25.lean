import Derived.Test.YtlndlpjadajelaaGreatQt22
import Derived.Test.YtlndlpjadajelaaGreatQt24
import Derived.Test.YtlndlpjadajelaaGreatQt09
import Derived.Maps.AppendAt
namespace Go.Proofs.YtlndlpjadajelaaGreat
open Go.RowKit Go.Proofs.YtlndlpjadajelaaGreat.Ds

theorem Ints.away {w : World} {B nb m : Nat} {s : Value} {xs : List Int} (h : Ints w B nb s xs) (hx : xs ≠ [] → ∀ b o sp n c, s = .slice (some ⟨b, o, sp⟩) n c → b ≠ m) : Ints w B m s xs := by
  obtain ⟨a, c, hv, hc, hl, hy⟩ := h
  refine ⟨a, c, hv, hc, hl, fun hne => ?_⟩
  obtain ⟨b, o, ha, hb, _, hcell⟩ := hy hne
  exact ⟨b, o, ha, hb, hx hne b o none xs.length c (by rw [hv, ha]), hcell⟩

/-- parts that do not lie in block nb -/
def PartsN (w : World) (B nb : Nat) (v : Value) (ts : List Tr) : Prop :=
  ∃ a c, v = .slice a ts.length c ∧ ts.length ≤ c ∧ ts.length ≤ 1073741824 ∧ (∀ t ∈ ts, Ints w B nb t.1 t.2.1) ∧
    (ts ≠ [] → ∃ b o, a = some ⟨b, o, none⟩ ∧ b < B ∧ b ≠ nb ∧ Cells w b o ts)

theorem PartsN.parts {w : World} {nb : Nat} {v : Value} {ts : List Tr} (h : PartsN w w.heap.size nb v ts) : Parts w w.heap.size v ts := by
  obtain ⟨a, c, hv, hc, hl, hi, hx⟩ := h
  refine ⟨a, c, hv, hc, hl, fun t ht => (hi t ht).mono (Nat.le_refl _) (.inr (Nat.le_refl _)), fun hne => ?_⟩
  obtain ⟨b, o, ha, hb, _, hcell⟩ := hx hne
  exact ⟨b, o, ha, hb, hcell⟩

theorem PartsN.at2 {w w' : World} {nb : Nat} {v : Value} {ts : List Tr} (h : PartsN w w.heap.size nb v ts) (hb : Below w.heap.size w w') : PartsN w' w'.heap.size nb v ts := by
  obtain ⟨a, c, hv, hc, hl, hi, hx⟩ := h
  refine ⟨a, c, hv, hc, hl, fun t ht => (hi t ht).at2 hb, fun hne => ?_⟩
  obtain ⟨b, o, ha, hB, hn, hcell⟩ := hx hne
  exact ⟨b, o, ha, Nat.lt_of_lt_of_le hB hb.size, hn, hcell.keep hb hB⟩

theorem PartsN.grow {W w' : World} {m m' : Nat} {v : Value} {ts : List Tr} {row : Option Nat} (h : PartsN W W.heap.size m v ts) (hg : W.grownBy w' row) (hrow : ∀ g, row = some g → m = g) (hm : m' = m ∨ W.heap.size ≤ m') : PartsN w' w'.heap.size m' v ts := by
  obtain ⟨a, c, hv, hc, hl, hi, hx⟩ := h
  refine ⟨a, c, hv, hc, hl, fun t ht => (hi t ht).grow hg (Nat.le_refl _) hrow hm, fun hne => ?_⟩
  obtain ⟨b, o, ha, hb, hn, hcell⟩ := hx hne
  have := hg.size
  refine ⟨b, o, ha, by omega, by rcases hm with h | h <;> omega, fun i t ht => ?_⟩
  have hne' : some b ≠ row := fun e => hn (hrow b e.symm).symm
  exact ⟨hg.cell (hcell i t ht).1 hne', hg.cell (hcell i t ht).2 hne'⟩

theorem own_away {w : World} {lo m : Nat} {v : Value} {ts : List Tr} (h : OwnN w lo v ts) (hf : Frs lo ts) (hm : m < lo) : PartsN w w.heap.size m v ts := by
  rcases h with ⟨rfl, rfl⟩ | ⟨b, o, c, rfl, hc, hl, hlo, hr, hi⟩
  · exact ⟨none, 0, rfl, Nat.le_refl _, by simp, by simp, fun h => absurd rfl h⟩
  · refine ⟨_, c, rfl, hc, hl, fun t ht => (hi t ht).away fun hne b o sp n c e => ?_, fun _ => ⟨b, o, rfl, hr.lt, by omega, hr.cells⟩⟩
    have := hf t ht hne b o sp n c e
    omega

theorem own_or2 {v : Value} {lo n : Nat} (h : ∀ g, v.ownBlock = some g → lo ≤ g ∧ g < n) (hn : lo < n) : ∃ m, lo ≤ m ∧ m < n ∧ ∀ g, v.ownBlock = some g → m = g := by
  cases e : v.ownBlock with
  | none => exact ⟨lo, Nat.le_refl _, hn, fun g e => by cases e⟩
  | some g => exact ⟨g, (h g e).1, (h g e).2, fun g' e => by simpa using e⟩

theorem info23 : (Tryz.prog.info? 44).map (fun i => (i.zero, i.size, i.bytes)) = some (some (.slice none 0 0), 1, 24) := by kernel_rfl

/-- distributions behind a slice -/
abbrev Dl := Value × List Tr
def Dss (w : World) (B : Nat) (v : Value) (ns : List Dl) : Prop :=
  ∃ a c, v = .slice a ns.length c ∧ ns.length ≤ c ∧ ns.length ≤ 1073741824 ∧ (∀ n ∈ ns, Parts w B n.1 n.2) ∧
    (ns ≠ [] → ∃ b o, a = some ⟨b, o, none⟩ ∧ b < B ∧ ∀ i n, ns[i]? = some n → w.cell? ⟨b, o + i, none⟩ = some n.1)
theorem Dss.keep {w w' : World} {B : Nat} {v : Value} {ns : List Dl} (h : Dss w B v ns) (hb : Below B w w') : Dss w' B v ns := by
  obtain ⟨a, c, hv, hc, hl, hi, hx⟩ := h
  refine ⟨a, c, hv, hc, hl, fun t ht => (hi t ht).keep hb, fun hne => ?_⟩
  obtain ⟨b, o, ha, hB, hcell⟩ := hx hne
  exact ⟨b, o, ha, hB, fun i z hz => (hb.cell (p := ⟨b, o + i, none⟩) hB).trans (hcell i z hz)⟩
theorem Dss.at {w w' : World} {B : Nat} {v : Value} {ns : List Dl} (h : Dss w B v ns) (hB : B ≤ w.heap.size) (hb : Below w.heap.size w w') : Dss w' B v ns := h.keep (hb.mono hB)
theorem Dss.get {w wr : World} {B : Nat} {a : Option Addr} {n c : Nat} {ns : List Dl} (hp : Dss w B (.slice a n c) ns) (hB : B ≤ w.heap.size) (hbl : Below w.heap.size w wr) {i : Nat} (h : i < ns.length) :
    ∃ b o na nc us, a = some ⟨b, o, none⟩ ∧ b < w.heap.size ∧ ns[i]? = some (.slice na us.length nc, us) ∧ wr.cell? ⟨b, o + i, none⟩ = some (.slice na us.length nc) ∧ Parts wr B (.slice na us.length nc) us := by
  obtain ⟨a', c', hv, hc, hl, hi, hx⟩ := hp
  simp only [Value.slice.injEq] at hv
  obtain ⟨rfl, rfl, rfl⟩ := hv
  obtain ⟨b, o, ha, hb, hcell⟩ := hx (ne_of_lt h)
  obtain ⟨⟨s, us⟩, hs⟩ := get_lt h
  have hI := hi _ (List.mem_of_getElem? hs)
  have hI2 := hI.at hB hbl
  obtain ⟨na, nc, he, _⟩ := hI
  simp only at he
  subst he
  have hlt : b < w.heap.size := by omega
  exact ⟨b, o, na, nc, us, ha, hlt, hs, (hbl.cell (p := ⟨b, o + i, none⟩) hlt).trans (hcell i _ hs), hI2⟩

/-- .. that grow -/
def Dsr (w : World) (lo : Nat) (v : Value) (ns : List Dl) : Prop :=
  w.ownsRow lo 44 1 v ns.length (ns.map (·.1)) ∧ ∀ n ∈ ns, ∃ m, PartsN w w.heap.size m n.1 n.2 ∧ ∀ g, v.ownBlock = some g → m = g
theorem Dsr.nil (w : World) (lo : Nat) : Dsr w lo (.slice none 0 0) [] := ⟨⟨rfl, .inl ⟨rfl, rfl⟩⟩, fun t ht => by cases ht⟩
theorem Dsr.keep {w w' : World} {lo : Nat} {v : Value} {ns : List Dl} (h : Dsr w lo v ns) (hb : Below w.heap.size w w') : Dsr w' lo v ns :=
  ⟨owns_below h.1 hb, fun t ht => let ⟨m, h1, h2⟩ := h.2 t ht; ⟨m, h1.at2 hb, h2⟩⟩
theorem Dsr.slice {w : World} {lo : Nat} {v : Value} {ns : List Dl} (h : Dsr w lo v ns) : ∃ a c, v = .slice a ns.length c := owns_slice h.1
theorem Dsr.lt {w : World} {lo : Nat} {v : Value} {ns : List Dl} (h : Dsr w lo v ns) : ∀ g, v.ownBlock = some g → lo ≤ g ∧ g < w.heap.size := h.1.lt
theorem Dsr.app {W w' : World} {lo : Nat} {v v' : Value} {ns : List Dl} {n : Dl} {m : Nat} (h : Dsr W lo v ns) (hown : w'.ownsRow lo 44 1 v' (ns.length + 1) (ns.map (·.1) ++ [n.1])) (hg : W.grownBy w' v.ownBlock)
    (hat : v'.ownBlock = v.ownBlock ∨ v'.ownBlock = some W.heap.size) (hp : PartsN W W.heap.size m n.1 n.2) (hm : ∀ g, v.ownBlock = some g → m = g) : Dsr w' lo v' (ns ++ [n]) := by
  refine ⟨by simpa using hown, fun t ht => ?_⟩
  have key : ∀ (m : Nat) (t : Dl), PartsN W W.heap.size m t.1 t.2 → (∀ g, v.ownBlock = some g → m = g) → ∃ m', PartsN w' w'.heap.size m' t.1 t.2 ∧ ∀ g, v'.ownBlock = some g → m' = g := by
    intro m t h3 h2
    rcases hat with hat | hat
    · exact ⟨m, h3.grow hg h2 (.inl rfl), by rw [hat]; exact h2⟩
    · exact ⟨W.heap.size, h3.grow hg h2 (.inr (Nat.le_refl _)), by rw [hat]; intro g e; simpa using e⟩
  rcases List.mem_append.1 ht with ht | ht
  · obtain ⟨m, h1, h2⟩ := h.2 t ht
    exact key m t h1 h2
  · obtain rfl : t = n := by simpa using ht
    exact key m t hp hm
theorem Dsr.dss {w : World} {lo : Nat} {v : Value} {ns : List Dl} (h : Dsr w lo v ns) (hl : ns.length ≤ 1073741824) : Dss w w.heap.size v ns := by
  have hi : ∀ t ∈ ns, Parts w w.heap.size t.1 t.2 := fun t ht => let ⟨m, h1, _⟩ := h.2 t ht; h1.parts
  obtain ⟨hlen, ⟨hv, h0⟩ | ⟨g, cap, cur, hv, hb, hcur, hc, _, hsz, hx⟩⟩ := h.1
  · obtain rfl : ns = [] := List.length_eq_zero_iff.1 h0
    exact ⟨none, 0, hv, Nat.le_refl _, hl, hi, fun h => absurd rfl h⟩
  · refine ⟨_, cap, hv, hc, hl, hi, fun _ => ⟨g, 0, rfl, (Array.getElem?_eq_some_iff.1 hcur).1, fun i t ht => ?_⟩⟩
    have hi2 : i < ns.length := (List.getElem?_eq_some_iff.1 ht).1
    have : cur[i]? = some t.1 := by
      have h1 : (ns.map (·.1))[i]? = some t.1 := by simp [ht]
      rw [← hx, List.getElem?_take_of_lt (by omega)] at h1
      simpa using h1
    simp [World.cell?, hcur, this]
theorem parts_away {w : World} {B m : Nat} {v : Value} {ts : List Tr} (h : Parts w B v ts) (hB : B ≤ w.heap.size) (hm : B ≤ m) : PartsN w w.heap.size m v ts := by
  obtain ⟨a, c, hv, hc, hl, hi, hx⟩ := h
  refine ⟨a, c, hv, hc, hl, fun t ht => (hi t ht).mono hB (.inr hm), fun hne => ?_⟩
  obtain ⟨b, o, ha, hb, hcell⟩ := hx hne
  exact ⟨b, o, ha, by omega, by omega, hcell⟩

theorem spr_congr {N M : List Int → List Pt} (A : Int) {l : List Pt} (h : ∀ p ∈ l, N p.1 = M p.1) : spr N A l = spr M A l := by
  induction l with
  | nil => rfl
  | cons p l ih => rw [spr_cons, spr_cons, h p (by simp), ih fun q hq => h q (by simp [hq])]
theorem spr_len (N : List Int → List Pt) (A : Int) {l : List Pt} (h : ∀ p ∈ l, (N p.1).length ≤ 4096) : (spr N A l).length ≤ l.length * 4096 := by
  induction l with
  | nil => simp [spr]
  | cons p l ih =>
    have h1 := ih fun q hq => h q (by simp [hq])
    have h2 := h p (by simp)
    rw [spr_cons]
    simp only [List.length_append, List.length_map, List.length_cons]
    omega

/-- in the midst of one -/
def Mid (F : List Int → List Pt) (A : Int) (l : List Pt) (i : Nat) (k : Int) (n : List Pt) (j : Nat) (d : List Pt) : Prop :=
  d = spr F A (l.take i) ++ (n.take j).map fun q => (q.1, k * q.2 * (A / tot n))
theorem Mid.start {F : List Int → List Pt} {A : Int} {l : List Pt} {i : Nat} {k : Int} {n d : List Pt} (h : d = spr F A (l.take i)) : Mid F A l i k n 0 d := by simp [Mid, h]
theorem Mid.step {F : List Int → List Pt} {A : Int} {l : List Pt} {i : Nat} {k : Int} {n d : List Pt} {j : Nat} {q : Pt} {R : Int} (h : Mid F A l i k n j d) (hq : n[j]? = some q) (hR : k * q.2 * (A / tot n) = R) : Mid F A l i k n (j + 1) (d ++ [(q.1, R)]) := by
  unfold Mid at *
  rw [h, List.take_add_one, hq]
  simp [hR]
theorem Mid.done {F : List Int → List Pt} {A : Int} {l : List Pt} {i : Nat} {k : Int} {n d : List Pt} {j : Nat} {x : List Int} (h : Mid F A l i k n j d) (hj : n.length ≤ j) (hp : l[i]? = some (x, k)) (hn : F x = n) : d = spr F A (l.take (i + 1)) := by
  unfold Mid at h
  rw [h, List.take_of_length_le hj, List.take_add_one, hp]
  show _ = spr F A (l.take i ++ [(x, k)])
  rw [spr_snoc]
  simp only [hn]
theorem Mid.len {F : List Int → List Pt} {A : Int} {l : List Pt} {i : Nat} {k : Int} {n d : List Pt} {j : Nat} (h : Mid F A l i k n j d) (hF : ∀ p ∈ l, (F p.1).length ≤ 4096) (hn : n.length ≤ 4096) (hi : i ≤ 4096) : d.length ≤ 16781312 := by
  have h1 := spr_len F A (l := l.take i) fun p hp => hF p (List.mem_of_mem_take hp)
  have h2 : (l.take i).length ≤ i := List.length_take_le _ _
  unfold Mid at h
  rw [h]
  simp only [List.length_append, List.length_map]
  have h3 : (n.take j).length ≤ n.length := by simp; omega
  have h4 : (l.take i).length * 4096 ≤ 4096 * 4096 := Nat.mul_le_mul_right _ (by omega)
  omega

set_option maxHeartbeats 4000000 in
set_option maxRecDepth 100000 in
theorem chainR_any (F : List Int → List Pt) (B : Nat) (v u : Value) (ts : List Tr) (ns : List Dl) (w : World) (hB : B ≤ w.heap.size) (hp : Parts w B v ts) (hq : Dss w B u ns) (hd : Dis (rd ts)) (hns : ns.map (fun n => rd n.2) = (rd ts).map fun p => F p.1) (l : List Pt) (er : Int) (hr : chT (fun x => ownT (F x)) (rd ts) = (l, er)) :
    Calls Tryz.prog 57 #[v, u] w fun e w' => ∃ v' us, e = .returned (.tuple #[v', .int .i64 er]) ∧ rd us = l ∧ OwnN w' w.heap.size v' us ∧ Below w.heap.size w w' := by
  have HP : Hid (Parts w B v ts) := hp
  have HQ : Hid (Dss w B u ns) := hq
  have hnl : ns.length = ts.length := by have := congrArg List.length hns; simpa [rd] using this
  have hel : ∀ (i : Nat) (n : Dl) (p : Pt), ns[i]? = some n → (rd ts)[i]? = some p → rd n.2 = F p.1 := by
    intro i n p h1 h2
    have h3 := congrArg (·[i]?) hns
    simp only [List.getElem?_map, h1, h2] at h3
    simpa using h3
  have HH : Hid (Dis (rd ts) ∧ (∀ (i : Nat) (n : Dl) (p : Pt), ns[i]? = some n → (rd ts)[i]? = some p → rd n.2 = F p.1) ∧ chT (fun x => ownT (F x)) (rd ts) = (l, er)) := ⟨hd, hel, hr⟩
  have hlt : ts.length ≤ 4096 := by rw [← rd_len]; exact hd.few
  obtain ⟨a, c, rfl, hc, hl, _⟩ := hp
  obtain ⟨ua, uc, rfl, _⟩ := hq
  obtain ⟨i0, hi0, hz0, hz1, hz2⟩ := info_parts info32
  have HNL : Hid (ns.length = ts.length) := hnl
  clear hd hns hr hel hnl
  go_enter Tryz.func57, Tryz.ntmps57
  go_wp2
  go_loopw [6, 18] (fun av iv wr => ∃ i A : Nat, iv = .int .i64 (i : Int) ∧ av = .int .i64 (A : Int) ∧ i ≤ ns.length ∧ 1 ≤ A ∧ A ≤ 1073741824 ∧ Hid (allT (fun x => ownT (F x)) 1 (rd ts) = allT (fun x => ownT (F x)) (A : Int) ((rd ts).drop i)) ∧ Below w.heap.size w wr) (fun _ iv _ => ns.length - (intOf iv).toNat)
  case atStart => exact ⟨0, 1, rfl, rfl, Nat.zero_le _, by omega, by omega, by simp [Hid], Below.refl _ _⟩
  case round => as_aux_lemma =>
    obtain ⟨i, A, rfl, rfl, hit, hA1, hA2, HA, hbl⟩ := hrel
    have hbs := hbl.size
    by_cases h1 : i < ns.length
    · obtain ⟨b, o, na, nc, us, rfl, hb, hs, c1, hN⟩ := HQ.out.get hB hbl h1
      obtain ⟨⟨x, k⟩, hpi⟩ := get_lt (l := rd ts) (i := i) (by rw [rd_len, ← HNL.out]; exact h1)
      have hrd := HH.out.2.1 i _ _ hs hpi
      simp only at hrd
      obtain ⟨e1, he1⟩ : ∃ e1, (ownT (F x)).2 = e1 := ⟨_, rfl⟩
      have HN : Hid (Parts wr B (.slice na us.length nc) us ∧ rd us = F x ∧ (rd ts)[i]? = some (x, k) ∧ (ownT (F x)).2 = e1) := ⟨hN, hrd, hpi, he1⟩
      have kw := wrongR_any B (.slice na us.length nc) us wr (by omega) hN e1 (by rw [hrd]; exact he1)
      have hstep : (rd ts).drop i = (x, k) :: (rd ts).drop (i + 1) := by rw [List.drop_eq_getElem_cons (List.getElem?_eq_some_iff.1 hpi).1, (List.getElem?_eq_some_iff.1 hpi).2]
      have HST : Hid ((rd ts).drop i = (x, k) :: (rd ts).drop (i + 1)) := hstep
      clear hs hpi hrd he1 hN hstep
      go_wp2_with fail
      refine kw.mono ?_
      rintro e w2 ⟨rfl, hb2⟩
      have b2 : Below w.heap.size w w2 := bt hbl hb2
      clear kw
      by_cases h0 : e1 = 0
      · subst h0
        obtain ⟨hnF, hdn⟩ := ownT_ok (Prod.ext rfl HN.out.2.2.2 : ownT (F x) = ((ownT (F x)).1, 0))
        have tn := tot_pos2 hdn.pos hdn.ne
        obtain ⟨T, hT⟩ := Int.eq_ofNat_of_zero_le (Int.le_of_lt tn)
        have hT0 : 0 < T := by omega
        have hT1 : T ≤ 1073741824 := by have := hdn.le; omega
        have kt := refTotal_any B (.slice na us.length nc) us w2 (by have := b2.size; omega) (HN.out.1.at (by omega) hb2) (by rw [HN.out.2.1]; exact Nn.of_pos hdn.pos) (by rw [HN.out.2.1]; have := hdn.le; omega) (T : Int) (by rw [HN.out.2.1]; exact hT)
        have kd := fun W => refDivisor_any A T (by omega) (by omega) (by omega) W
        obtain ⟨G, hG⟩ : ∃ G, Nat.gcd A T = G := ⟨_, rfl⟩
        obtain ⟨g, hg⟩ : ∃ g, T / G = g := ⟨_, rfl⟩
        have hG0 : 0 < G := by rw [← hG]; exact Nat.gcd_pos_of_pos_left _ (by omega)
        have hGz : ((G : Int) == 0) = false := by simp; omega
        have hq : (T : Int) / (G : Int) = (g : Int) := by rw [← hg]; exact (Int.natCast_ediv T G).symm
        have hg1 : g ≤ T := by rw [← hg]; exact Nat.div_le_self _ _
        have hg0 : 1 ≤ g := by rw [← hg]; exact Nat.div_pos (Nat.le_of_dvd hT0 (hG ▸ Nat.gcd_dvd_right A T)) hG0
        obtain ⟨P, hP⟩ : ∃ P, A * g = P := ⟨_, rfl⟩
        have hP' : (A : Int) * (g : Int) = (P : Int) := by rw [← hP]; exact (Int.natCast_mul A g).symm
        have hP1 : P ≤ 1152921504606846976 := by rw [← hP]; exact Nat.mul_le_mul hA2 (Nat.le_trans hg1 hT1)
        have hP0 : 1 ≤ P := by rw [← hP]; exact Nat.mul_pos hA1 hg0
        have HAL : Hid (allT (fun x => ownT (F x)) 1 (rd ts) = if (1073741824 : Int) < (P : Int) then (0, 4) else allT (fun x => ownT (F x)) (P : Int) ((rd ts).drop (i + 1))) := by
          rw [Hid, HA.out, HST.out, allT]
          simp only [HN.out.2.2.2, hnF, if_true]
          have e : (A : Int) * (tot (F x) / (Int.gcd (A : Int) (tot (F x)) : Int)) = (P : Int) := by
            rw [hT]
            show (A : Int) * ((T : Int) / ((Nat.gcd A T : Nat) : Int)) = P
            rw [hG, hq, hP']
          rw [e]
        rw [hG] at kd
        clear hdn hT tn hG hg hP hnF HA
        go_wp2_with fail
        refine kt.mono ?_
        rintro e w3 ⟨rfl, hb3⟩
        clear kt
        go_wp2_with fail
        refine (kd _).mono ?_
        rintro e w4 ⟨rfl, rfl⟩
        clear kd
        have b3 : Below w.heap.size w w4 := bt b2 hb3
        by_cases hm : 1073741824 < P
        · have hal := HAL.out
          have hm' : (1073741824 : Int) < (P : Int) := by omega
          rw [if_pos hm'] at hal
          have hch := HH.out.2.2
          unfold chT at hch
          rw [hal] at hch
          simp at hch
          obtain ⟨rfl, rfl⟩ := hch
          go_wp2
          exact bodyPost_ret (v := .tuple #[.slice none 0 0, .int .i64 4]) (by simp [results, Tryz.results57, go_sem]) rfl ⟨_, [], rfl, rfl, .inl ⟨rfl, rfl⟩, b3⟩
        · have hm' : ¬ (1073741824 : Int) < (P : Int) := by omega
          have HA2 : Hid (allT (fun x => ownT (F x)) 1 (rd ts) = allT (fun x => ownT (F x)) (P : Int) ((rd ts).drop (i + 1))) := by have := HAL.out; rw [if_neg hm'] at this; exact this
          clear HAL
          go_wp2
          go_roundw
          case rel => exact ⟨i + 1, P, by go_num, rfl, h1, hP0, by omega, HA2, b3⟩
          case measure => simp [intOf]; omega
      · have hal : allT (fun x => ownT (F x)) 1 (rd ts) = (0, e1) := by
          rw [HA.out, HST.out, allT]
          simp only [HN.out.2.2.2]
          rw [if_neg h0]
        have hch := HH.out.2.2
        unfold chT at hch
        rw [hal] at hch
        simp only [h0, if_false, Prod.mk.injEq] at hch
        obtain ⟨rfl, rfl⟩ := hch
        have h0' : (e1 == 0) = false := by simpa using h0
        clear hal
        go_wp2
        exact bodyPost_ret (v := .tuple #[.slice none 0 0, .int .i64 e1]) (by simp [results, Tryz.results57, go_sem]) rfl ⟨_, [], rfl, rfl, .inl ⟨rfl, rfl⟩, b2⟩
    · have hal : allT (fun x => ownT (F x)) 1 (rd ts) = ((A : Int), 0) := by rw [HA.out, List.drop_eq_nil_of_le (by rw [rd_len, ← HNL.out]; omega), allT]
      obtain ⟨_, _, hok⟩ := allT_ok hal (by omega) fun p _ he => own_dis he
      have hF : ∀ p ∈ rd ts, (ownT (F p.1)).1 = F p.1 ∧ Dis (F p.1) := fun p hp => ownT_ok (Prod.ext rfl (hok p hp).1 : ownT (F p.1) = ((ownT (F p.1)).1, 0))
      have hdv : ∀ p ∈ rd ts, tot (F p.1) ∣ (A : Int) := fun p hp => by have := (hok p hp).2; simp only [(hF p hp).1] at this; exact this
      have hch := HH.out.2.2
      unfold chT at hch
      rw [hal] at hch
      simp only [if_true] at hch
      rw [spr_congr (N := fun x => (ownT (F x)).1) (M := F) (A : Int) fun p hp => (hF p hp).1] at hch
      have tn := tot_pos2 HH.out.1.pos HH.out.1.ne
      obtain ⟨T, hT⟩ := Int.eq_ofNat_of_zero_le (Int.le_of_lt tn)
      have hT1 : T ≤ 1073741824 := by have := HH.out.1.le; omega
      have kt := refTotal_any B (.slice a ts.length c) ts wr (by omega) (HP.out.at hB hbl) (Nn.of_pos HH.out.1.pos) (by have := HH.out.1.le; omega) (T : Int) hT
      obtain ⟨Z, hZ⟩ : ∃ Z, A * T = Z := ⟨_, rfl⟩
      have hZ' : (A : Int) * (T : Int) = (Z : Int) := by rw [← hZ]; exact (Int.natCast_mul A T).symm
      have hZ1 : Z ≤ 1152921504606846976 := by rw [← hZ]; exact Nat.mul_le_mul hA2 hT1
      rw [hT, hZ'] at hch
      have HC : Hid ((if (1073741824 : Int) < (Z : Int) then ([], 4) else lowT (gath (spr F (A : Int) (rd ts)))) = (l, er) ∧ (∀ p ∈ rd ts, Dis (F p.1)) ∧ (∀ p ∈ rd ts, tot (F p.1) ∣ (A : Int)) ∧ tot (rd ts) = (T : Int)) := ⟨hch, fun p hp => (hF p hp).2, hdv, hT⟩
      clear hch hF hdv hok hal HA tn hT hZ
      go_wp2_with fail
      refine kt.mono ?_
      rintro e w2 ⟨rfl, hb2⟩
      clear kt
      have b2 : Below w.heap.size w w2 := bt hbl hb2
      have hs2 := b2.size
      by_cases hm : (1073741824 : Int) < (Z : Int)
      · have hd := HC.out.1
        rw [if_pos hm] at hd
        simp only [Prod.mk.injEq] at hd
        obtain ⟨rfl, rfl⟩ := hd
        go_wp2
        exact bodyPost_ret (v := .tuple #[.slice none 0 0, .int .i64 4]) (by simp [results, Tryz.results57, go_sem]) rfl ⟨_, [], rfl, rfl, .inl ⟨rfl, rfl⟩, b2⟩
      · have hd := HC.out.1
        rw [if_neg hm] at hd
        have HL : Hid (lowT (gath (spr F (A : Int) (rd ts))) = (l, er)) := hd
        clear hd
        go_wp2
        go_loopw [11, 46] (fun pv iv wq => ∃ (i : Nat) (ds : List Tr), iv = .int .i64 (i : Int) ∧ i ≤ ts.length ∧ Hid (rd ds = spr F (A : Int) ((rd ts).take i) ∧ Rws wq w2.heap.size pv ds) ∧ Below w2.heap.size w2 wq) (fun _ iv _ => ts.length - (intOf iv).toNat)
        case atStart => exact ⟨0, [], rfl, Nat.zero_le _, ⟨by simp [rd, spr], Rws.nil _ _⟩, Below.refl _ _⟩
        case round => as_aux_lemma =>
          obtain ⟨i2, ds, rfl, hit2, HD, hbq⟩ := hrel
          have b3 : Below w.heap.size w wr := bt b2 hbq
          have hs3 := b3.size
          obtain ⟨pa, pc, rfl⟩ := HD.out.2.slice
          by_cases h2 : i2 < ts.length
          · obtain ⟨b, o, sa, sc, xs, k, rfl, hb, hs, c1, c2, hIx⟩ := HP.out.get hB b3 h2
            obtain ⟨b', o', na, nc, us, rfl, hb', hs', d1, hN⟩ := HQ.out.get hB b3 (i := i2) (by rw [HNL.out]; exact h2)
            have hpi : (rd ts)[i2]? = some (xs, k) := rd_get hs
            have hrd := HH.out.2.1 i2 _ _ hs' hpi
            simp only at hrd
            have hdn : Dis (F xs) := HC.out.2.1 _ (List.mem_of_getElem? hpi)
            have tn := tot_pos2 hdn.pos hdn.ne
            obtain ⟨T2, hT2⟩ := Int.eq_ofNat_of_zero_le (Int.le_of_lt tn)
            have hT20 : 0 < T2 := by omega
            have hT21 : T2 ≤ 1073741824 := by have := hdn.le; omega
            obtain ⟨Q, hQ⟩ : ∃ Q, A / T2 = Q := ⟨_, rfl⟩
            have hQ' : (A : Int) / (T2 : Int) = (Q : Int) := by rw [← hQ]; exact (Int.natCast_ediv A T2).symm
            have hTQ : (T2 : Int) * (Q : Int) ≤ (A : Int) := by
              have := Nat.mul_div_le A T2
              rw [hQ] at this
              exact_mod_cast this
            have hQ1 : Q ≤ 1073741824 := by rw [← hQ]; exact Nat.le_trans (Nat.div_le_self _ _) hA2
            have hk0 : 0 < k := HH.out.1.pos _ (List.mem_of_getElem? hpi)
            have hk1 : k ≤ 1073741824 := by
              have h1 := Pos.le_tot (Nn.of_pos HH.out.1.pos) (List.mem_of_getElem? hpi)
              have h3 := HH.out.1.le
              simp only at h1
              omega
            have hTn1 : ¬ T2 = 0 := by omega
            have hTz : ((T2 : Int) == 0) = false := by simp; omega
            have hTn : ¬ (T2 : Int) = 0 := by omega
            have eQ : (A : Int).tdiv (T2 : Int) = (Q : Int) := by rw [Int.tdiv_eq_ediv_of_nonneg (by omega)]; exact hQ'
            have wQ : IntKind.i64.wrap (Q : Int) = (Q : Int) := by rw [IntKind.wrap_i64]; omega
            have hdq : ∀ u : World, (binOp .quo 3 (.int .i64 (A : Int)) (.int .i64 (T2 : Int))).run Tryz.prog u = .ok (.int .i64 (Q : Int)) u := fun u => by simp [go_sem, Op.intDiv, hTn1, eQ, wQ]
            obtain ⟨N, hN0⟩ : ∃ N, wr.heap.size = N := ⟨_, rfl⟩
            have hpl := HD.out.2.lt
            have HX : Hid (Parts w B (.slice na us.length nc) us ∧ rd us = F xs ∧ (rd ts)[i2]? = some (xs, k) ∧ Dis (F xs) ∧ tot (F xs) = (T2 : Int)) := by
              refine ⟨?_, hrd, hpi, hdn, hT2⟩
              obtain ⟨_, _, _, _, _, hall, _⟩ := HQ.out
              exact hall _ (List.mem_of_getElem? hs')
            have hus : us.length ≤ 4096 := by rw [← rd_len, HX.out.2.1]; exact HX.out.2.2.2.1.few
            have z1 : (0 : Int) ≤ (i2 : Int) := by omega
            have z2 : (i2 : Int) < (ns.length : Int) := by rw [HNL.out]; omega
            have HIN : Hid (∃ (j : Nat) (es : List Tr), j = 0 ∧ Mid F (A : Int) (rd ts) i2 k (rd us) j (rd es) ∧ Rws (wr.alloc (.cells #[.slice sa xs.length sc, .int .i64 k] 82)) w2.heap.size (.slice pa ds.length pc) es ∧ (∀ g, (Value.slice pa ds.length pc).ownBlock = some g → g ≠ N)) :=
              ⟨0, ds, rfl, Mid.start HD.out.1, HD.out.2.keep (ba _ _), fun g e => by have := (hpl g e).2; omega⟩
            have hNc : (wr.alloc (.cells #[.slice sa xs.length sc, .int .i64 k] 82)).cell? ⟨N, 1, none⟩ = some (.int .i64 k) := by rw [← hN0]; simp [go_sem]
            have hNs : N < (wr.alloc (.cells #[.slice sa xs.length sc, .int .i64 k] 82)).heap.size := by rw [← hN0]; simp
            have hN2 : w2.heap.size ≤ N := by rw [← hN0]; exact hbq.size
            have hbq2 : Below w2.heap.size w2 (wr.alloc (.cells #[.slice sa xs.length sc, .int .i64 k] 82)) := bal hbq _
            have HDS : Hid (rd ds = spr F (A : Int) ((rd ts).take i2) ∧ Rws (wr.alloc (.cells #[.slice sa xs.length sc, .int .i64 k] 82)) w2.heap.size (.slice pa ds.length pc) ds) := ⟨HD.out.1, HD.out.2.keep (ba _ _)⟩
            have d1' : (wr.alloc (.cells #[.slice sa xs.length sc, .int .i64 k] 82)).cell? ⟨b', o' + i2, none⟩ = some (.slice na us.length nc) := ((ba wr (.cells #[.slice sa xs.length sc, .int .i64 k] 82)).cell (p := ⟨b', o' + i2, none⟩) (by show b' < wr.heap.size; omega)).trans d1
            clear hs hs' hpi hrd hdn tn hIx hN hQ hT2 HD
            go_wp2
            go_loopw [11, 56] (fun pv jv wq => ∃ (j : Nat) (es : List Tr), jv = .int .i64 (j : Int) ∧ j ≤ us.length ∧ Hid (Mid F (A : Int) (rd ts) i2 k (rd us) j (rd es) ∧ Rws wq w2.heap.size pv es ∧ (∀ g, pv.ownBlock = some g → g ≠ N) ∧ wq.cell? ⟨N, 1, none⟩ = some (.int .i64 k) ∧ N < wq.heap.size) ∧ Below w2.heap.size w2 wq) (fun _ jv _ => us.length - (intOf jv).toNat)
            case atStart => exact ⟨0, ds, rfl, Nat.zero_le _, ⟨Mid.start HDS.out.1, HDS.out.2, fun g e => by have := (hpl g e).2; omega, hNc, hNs⟩, hbq2⟩
            case round => as_aux_lemma =>
              obtain ⟨j, es, rfl, hjt, HE, hbj⟩ := hrel
              have bj : Below w.heap.size w wr := bt b2 hbj
              have hjs := hbj.size
              have hpl2 := HE.out.2.1.lt
              obtain ⟨ea, ec, rfl⟩ := HE.out.2.1.slice
              by_cases h3 : j < us.length
              · obtain ⟨yb, yo, ya, yc, ys, q, rfl, hby, hsy, f1, f2, hIy⟩ := HX.out.1.get hB bj h3
                have hqi : (rd us)[j]? = some (ys, q) := rd_get hsy
                have hqm : (ys, q) ∈ F xs := by rw [← HX.out.2.1]; exact List.mem_of_getElem? hqi
                have hq0 : 0 < q := HX.out.2.2.2.1.pos _ hqm
                have hq1 : q ≤ (T2 : Int) := by have := Pos.le_tot (Nn.of_pos HX.out.2.2.2.1.pos) hqm; rw [HX.out.2.2.2.2] at this; exact this
                obtain ⟨P1, hP1⟩ : ∃ P1, k * q = P1 := ⟨_, rfl⟩
                have bP1 : 0 ≤ P1 ∧ P1 ≤ 1152921504606846976 := by rw [← hP1]; exact Rt.mul_bd (by omega) hk1 (by omega) (by omega)
                obtain ⟨R, hR⟩ : ∃ R, P1 * (Q : Int) = R := ⟨_, rfl⟩
                have bR : 0 ≤ R ∧ R ≤ 1152921504606846976 := by
                  have e1 : R = k * (q * (Q : Int)) := by rw [← hR, ← hP1]; ac_rfl
                  have e2 : q * (Q : Int) ≤ (T2 : Int) * (Q : Int) := Int.mul_le_mul_of_nonneg_right hq1 (by omega)
                  have e3 : 0 ≤ q * (Q : Int) := Int.mul_nonneg (by omega) (by omega)
                  rw [e1]
                  exact Rt.mul_bd (by omega) hk1 e3 (by omega)
                have wP1 : IntKind.i64.wrap P1 = P1 := by rw [IntKind.wrap_i64]; omega
                have wR : IntKind.i64.wrap R = R := by rw [IntKind.wrap_i64]; omega
                have hml1 : ∀ u : World, (binOp .mul 3 (.int .i64 k) (.int .i64 q)).run Tryz.prog u = .ok (.int .i64 P1) u := fun u => by simp [go_sem, hP1, wP1]
                have hml2 : ∀ u : World, (binOp .mul 3 (.int .i64 P1) (.int .i64 (Q : Int))).run Tryz.prog u = .ok (.int .i64 R) u := fun u => by simp [go_sem, hR, wR]
                have HMN : Hid (Mid F (A : Int) (rd ts) i2 k (rd us) (j + 1) (rd es ++ [(ys, R)])) := HE.out.1.step hqi (by rw [HX.out.2.1, HX.out.2.2.2.2, hQ']; simp only; rw [hP1, hR])
                have hel : es.length ≤ 16781312 := by rw [← rd_len]; exact HE.out.1.len (fun p hp => (HC.out.2.1 p hp).few) (by rw [HX.out.2.1]; exact HX.out.2.2.2.1.few) (by omega)
                have HEL : Hid (es.length ≤ 16781312) := hel
                obtain ⟨mo, hmo, hmo2, hmg⟩ := own_or2 (v := .slice ea es.length ec) (lo := w2.heap.size) (n := wr.heap.size + 1) (fun g e => ⟨(hpl2 g e).1, Nat.lt_succ_of_lt (hpl2 g e).2⟩) (by omega)
                have HO : Hid (∀ g, (Value.slice ea es.length ec).ownBlock = some g → g < wr.heap.size ∧ mo = g ∧ g ≠ N) := fun g e => ⟨(hpl2 g e).2, hmg g e, HE.out.2.2.1 g e⟩
                have hmo2b : ∀ g, (Value.slice ea es.length ec).ownBlock = some g → w2.heap.size ≤ g := fun g e => (hpl2 g e).1
                have HIy : Hid (Ints wr B B (.slice ya ys.length yc) ys) := hIy
                have c3 := HE.out.2.2.2.1
                have hNw := HE.out.2.2.2.2
                have hcb := (bj.cell (p := ⟨b', o' + i2, none⟩) hb').trans ((b3.cell (p := ⟨b', o' + i2, none⟩) hb').symm.trans d1)
                have kt := fun W h hP => refTotal_any B (.slice (some ⟨yb, yo, none⟩) us.length nc) us W h hP (by rw [HX.out.2.1]; exact Nn.of_pos HX.out.2.2.2.1.pos) (by rw [HX.out.2.1]; have := HX.out.2.2.2.1.le; omega) (T2 : Int) (by rw [HX.out.2.1]; exact HX.out.2.2.2.2)
                clear hsy hIy hqi hqm hpl2 hmg hel
                go_wp2_with fail
                generalize hOb : Obj.cells #[Value.slice ya ys.length yc, Value.int IntKind.i64 q] 82 = O
                have g1 : (wr.alloc O).cell? ⟨wr.heap.size, 0, none⟩ = some (.slice ya ys.length yc) := by rw [← hOb]; simp [go_sem]
                have g2 : (wr.alloc O).cell? ⟨wr.heap.size, 1, none⟩ = some (.int .i64 q) := by rw [← hOb]; simp [go_sem]
                have g7 : (wr.alloc O).heap.size = wr.heap.size + 1 := by simp
                obtain ⟨W, hW⟩ : ∃ W, wr.alloc O = W := ⟨_, rfl⟩
                have HB : Hid (Below wr.heap.size wr W) := hW ▸ ba wr O
                rw [hW] at g1 g2 g7 ⊢
                have g3 : W.cell? ⟨N, 1, none⟩ = some (.int .i64 k) := (HB.out.cell (p := ⟨N, 1, none⟩) hNw).trans c3
                have g4 : W.cell? ⟨b', o' + i2, none⟩ = some (.slice (some ⟨yb, yo, none⟩) us.length nc) := (HB.out.cell (p := ⟨b', o' + i2, none⟩) (by show b' < wr.heap.size; omega)).trans hcb
                have HPw : Hid (Parts W B (.slice (some ⟨yb, yo, none⟩) us.length nc) us) := (HX.out.1.at hB bj).at (by omega) HB.out
                have HIw : Hid (Ints W B B (.slice ya ys.length yc) ys) := HIy.out.at (by omega) HB.out
                have HRw : Hid (Rws W w2.heap.size (.slice ea es.length ec) es) := HE.out.2.1.keep HB.out
                have lw : wr.heap.size < W.heap.size := by omega
                have lN : N < W.heap.size := by omega
                have lb : b' < W.heap.size := by omega
                clear hOb hW f1 f2 c3 hcb HIy
                go_region_held3 (fun w' => w'.cell? ⟨wr.heap.size, 0, none⟩ = some (.slice ya ys.length yc) ∧ w'.cell? ⟨wr.heap.size, 1, none⟩ = some (.int .i64 q) ∧ w'.cell? ⟨N, 1, none⟩ = some (.int .i64 k) ∧ w'.cell? ⟨b', o' + i2, none⟩ = some (.slice (some ⟨yb, yo, none⟩) us.length nc))
                  ((go_split_ands; refine ⟨?_, ?_, ?_, ?_⟩ <;> first | assumption | (simp [go_sem, *]; done)))
                  (first
                    | (go_at_call 55; refine (kt _ ?_ ?_).mono ?_; (show B ≤ W.heap.size; omega); (exact HPw.out.at (by omega) (Below.refl _ _).drew); rintro x5 w5 ⟨rfl, hb5⟩; obtain ⟨hc5, hf5⟩ := bcell hb5; have hs5 : W.heap.size ≤ w5.heap.size := hb5.size; have k1 : w5.cell? ⟨wr.heap.size, 0, none⟩ = some (.slice ya ys.length yc) := (hc5 wr.heap.size 0 lw).trans g1; have k2 : w5.cell? ⟨wr.heap.size, 1, none⟩ = some (.int .i64 q) := (hc5 wr.heap.size 1 lw).trans g2; have k3 : w5.cell? ⟨N, 1, none⟩ = some (.int .i64 k) := (hc5 N 1 lN).trans g3; have k4 : w5.cell? ⟨b', o' + i2, none⟩ = some (.slice (some ⟨yb, yo, none⟩) us.length nc) := (hc5 b' (o' + i2) lb).trans g4; clear hc5 hf5; have k5 : ∀ O, (w5.alloc O).cell? ⟨wr.heap.size, 0, none⟩ = some (.slice ya ys.length yc) := fun O => ((ba w5 O).cell (p := ⟨wr.heap.size, 0, none⟩) (show wr.heap.size < w5.heap.size by omega)).trans k1; have k6 : ∀ O, (w5.alloc O).cell? ⟨wr.heap.size, 1, none⟩ = some (.int .i64 q) := fun O => ((ba w5 O).cell (p := ⟨wr.heap.size, 1, none⟩) (show wr.heap.size < w5.heap.size by omega)).trans k2; have k7 : ∀ O, (w5.alloc O).cell? ⟨N, 1, none⟩ = some (.int .i64 k) := fun O => ((ba w5 O).cell (p := ⟨N, 1, none⟩) (show N < w5.heap.size by omega)).trans k3; have k8 : ∀ O, (w5.alloc O).cell? ⟨b', o' + i2, none⟩ = some (.slice (some ⟨yb, yo, none⟩) us.length nc) := fun O => ((ba w5 O).cell (p := ⟨b', o' + i2, none⟩) (show b' < w5.heap.size by omega)).trans k4)
                    | (refine step_append_lies _ rfl _ _ 43 rfl w2.heap.size 82 i0 (.agg #[.slice none 0 0, .int .i64 0]) 2 32 Tryz.underlying43 hi0 hz0 hz1 hz2 rfl (by decide) (.slice ea es.length ec) es.length (flat es) rfl ?_ ⟨w5.heap.size, 0, none⟩ 1 1 [.slice ya ys.length yc, .int .i64 R] rfl rfl ?_ ?_ (by decide) ?_ ?_ ?_ (w5.heap.size + 1) ?_ ?_; (exact (HRw.out.keep (bt (Below.refl _ _).drew (bal hb5 _))).1); (exact two_cells w5 _ R _ rfl); (intro u hu; simp at hu; rcases hu with rfl | rfl <;> rfl); (have := HEL.out; simp [maxLen]; omega); (have := HEL.out; omega); (simp; omega); (simp); intro g cap w6 hown hgrow hat hlt6; have m1 : w6.cell? ⟨wr.heap.size, 0, none⟩ = some (.slice ya ys.length yc) := hgrow.cell (k5 _) (fun e => absurd (HO.out wr.heap.size e.symm).1 (Nat.lt_irrefl _)); have m2 : w6.cell? ⟨wr.heap.size, 1, none⟩ = some (.int .i64 q) := hgrow.cell (k6 _) (fun e => absurd (HO.out wr.heap.size e.symm).1 (Nat.lt_irrefl _)); have m3 : w6.cell? ⟨N, 1, none⟩ = some (.int .i64 k) := hgrow.cell (k7 _) (fun e => absurd rfl (HO.out N e.symm).2.2); have m4 : w6.cell? ⟨b', o' + i2, none⟩ = some (.slice (some ⟨yb, yo, none⟩) us.length nc) := hgrow.cell (k8 _) (fun e => absurd (Nat.lt_of_lt_of_le hb' (Nat.le_trans hs2 (hmo2b b' e.symm))) (Nat.lt_irrefl _))))
                have hb6 : Below W.heap.size W (w5.alloc (.cells #[.slice ya ys.length yc, .int .i64 R] 82)) := bt (Below.refl _ _).drew (bal hb5 _)
                have HR3 : Hid (Rws (w5.alloc (.cells #[.slice ya ys.length yc, .int .i64 R] 82)) w2.heap.size (.slice ea es.length ec) es) := HRw.out.keep hb6
                have HR4 : Hid (Rws w6 w2.heap.size (.slice (some ⟨g, 0, none⟩) (es.length + 1) cap) (es ++ [(.slice ya ys.length yc, ys, R)])) :=
                  HR3.out.more hown hgrow (hat.imp id fun e => by rw [e]; simp) ((HIw.out.at (by omega) hb6).mono (by simp; omega) (.inr (by omega))) fun g e => (HO.out g e).2.1
                have HB6 : Hid (Below w2.heap.size w2 w6) := (bt (bt hbj HB.out) hb6).grown hgrow (by simp; omega) (owns_block HR3.out.1)
                have HE2 : Hid (Mid F (A : Int) (rd ts) i2 k (rd us) (j + 1) (rd (es ++ [(.slice ya ys.length yc, ys, R)])) ∧ Rws w6 w2.heap.size (.slice (some ⟨g, 0, none⟩) (es.length + 1) cap) (es ++ [(.slice ya ys.length yc, ys, R)]) ∧ (∀ g', (Value.slice (some ⟨g, 0, none⟩) (es.length + 1) cap).ownBlock = some g' → g' ≠ N) ∧ w6.cell? ⟨N, 1, none⟩ = some (.int .i64 k) ∧ N < w6.heap.size) := by
                  refine ⟨by simpa [rd] using HMN.out, HR4.out, fun g' e => ?_, m3, World.block_lt_of_cell? w6 ⟨N, 1, none⟩ m3⟩
                  simp only [Value.ownBlock, Option.some.injEq] at e
                  subst e
                  rcases hat with e | e
                  · exact (HO.out g e).2.2
                  · omega
                clear hb6 HR3 HR4 hown hgrow hat hlt6 k1 k2 k3 k4 k5 k6 k7 k8 m1 m2 m3 m4 hb5 g1 g2 g3 g4 kt
                go_wp2
                go_roundw
                case rel => exact ⟨j + 1, es ++ [(.slice ya ys.length yc, ys, R)], by go_num, h3, HE2, HB6.out⟩
                case measure => simp [intOf]; omega
              · have hdone : rd es = spr F (A : Int) ((rd ts).take (i2 + 1)) := HE.out.1.done (by rw [rd_len]; omega) HX.out.2.2.1 HX.out.2.1.symm
                have HDD : Hid (rd es = spr F (A : Int) ((rd ts).take (i2 + 1)) ∧ Rws wr w2.heap.size (.slice ea es.length ec) es) := ⟨hdone, HE.out.2.1⟩
                clear hdone HE
                go_wp2
                go_roundw
                case rel => exact ⟨i2 + 1, es, by go_num, h2, HDD, hbj⟩
                case measure => simp [intOf]; omega
          · have hrd : rd ds = spr F (A : Int) (rd ts) := by rw [HD.out.1, List.take_of_length_le (by rw [rd_len]; omega)]
            have hnn : Nn (rd ds) := by rw [hrd]; exact spr_nn _ _ (Nn.of_pos HH.out.1.pos) (fun p hp => Nn.of_pos (HC.out.2.1 p hp).pos) (by omega)
            have htt : tot (rd ds) ≤ 4611686018427387904 := by rw [hrd, spr_tot F (A : Int) HC.out.2.2.1, HC.out.2.2.2, hZ']; omega
            have hdl : ds.length ≤ 1073741824 := by
              rw [← rd_len, hrd]
              have h3 := spr_len F (A : Int) (l := rd ts) fun p hp => (HC.out.2.1 p hp).few
              rw [rd_len] at h3
              have h4 : ts.length * 4096 ≤ 4096 * 4096 := Nat.mul_le_mul_right _ hlt
              omega
            have kk := tidy_any wr.heap.size (.slice pa ds.length pc) ds wr (Nat.le_refl _) (HD.out.2.parts hdl) hnn htt l er (by rw [hrd]; exact HL.out)
            clear hrd hnn htt hdl
            go_wp2_with fail
            refine kk.mono ?_
            rintro e w5 ⟨v5, xs, rfl, k1, k2, k3⟩
            obtain ⟨b5, d5, rfl⟩ := k2.slice
            clear kk
            go_wp2
            exact bodyPost_ret (v := .tuple #[.slice b5 xs.length d5, .int .i64 er]) (by simp [results, Tryz.results57, go_sem]) rfl ⟨_, xs, rfl, k1, k2.mono (by omega), bt b3 k3⟩
end Go.Proofs.YtlndlpjadajelaaGreat
