import Derived.Test.YtidfkencjdjkbaaDoorQr36
/-
  The document's own answer, chapter 15: ask.
-/
namespace Go.Proofs.YtidfkencjdjkbaaDoor
open Go.RowKit Sp

/-- what is left to add: a state, what was read so far -/
def SuR (p : List Pc → PR Qu) (G : Nat → Prop) (w : World) (n : Nat) (st : St) (cs : List Value) (r : PR Qu) : Prop :=
  (∀ ps, st = .ok ps → ∃ a, QN G w a cs ∧ sumL p (64 - n) a ps = r) ∧ (∀ e, st = .error e → .error e = r)
theorem sum_no {p : List Pc → PR Qu} {k : Nat} {a : Qu} {ps : List Pc} (h : ¬ (hd ps = sPlus ∨ hd ps = sMinus)) : sumL p k a ps = .ok (a, ps) := by cases k <;> rw [sumL, if_neg h]
theorem sum_much {p : List Pc → PR Qu} {a : Qu} {ps : List Pc} (h : hd ps = sPlus ∨ hd ps = sMinus) : sumL p 0 a ps = .error (4, hat ps) := by rw [sumL, if_pos h]
theorem SuR.kp {p : List Pc → PR Qu} {G : Nat → Prop} {w w' : World} {n : Nat} {st : St} {cs : List Value} {r : PR Qu} (h : SuR p G w n st cs r) (hk : KG G w w') : SuR p G w' n st cs r :=
  ⟨fun ps e => by obtain ⟨a, h1, h2⟩ := h.1 ps e; exact ⟨a, QN.kp hk (fun g h _ => h) a h1, h2⟩, h.2⟩
theorem su_start {p : List Pc → PR Qu} {G : Nat → Prop} {w : World} {ps : List Pc} {r1 r : PR Qu} {cs : List Value} (h1 : p ps = r1) (h : qusP p 64 ps = r) (hq : ∀ a q, r1 = .ok (a, q) → QN G w a cs) : SuR p G w 0 (nxS r1) cs r := by
  rw [qusP, h1] at h
  cases r1 with
  | error e => exact ⟨fun ps h' => (by cases h'), fun e' h' => (by cases h'; exact h)⟩
  | ok x => obtain ⟨a, q⟩ := x; exact ⟨fun ps h' => (by cases h'; exact ⟨a, hq a q rfl, h⟩), fun e' h' => (by cases h')⟩
theorem su_end {p : List Pc → PR Qu} {G : Nat → Prop} {w w' : World} {R P0 lo n : Nat} {st : St} {r : PR Qu} {k : Int} {c : By} {l h : Int} {a4 : Option Addr} {n4 c4 : Nat} {a5 : Option Addr} {n5 c5 : Nat} (hp : SuR p G w' n st [.int .i64 k, .string (tx c), .int .i64 l, .int .i64 h, .slice a4 n4 c4, .slice a5 n5 c5] r) (hG : ∀ g, G g → lo ≤ g) (hs : SS w' R P0 st) (hg : w.grownBy w' (some R)) (hb : nxtB sPlus st = false) (hb2 : nxtB sMinus st = false) :
    SP w R P0 (VN lo) GN r (.returned (.agg #[.int .i64 k, .string (tx c), .int .i64 l, .int .i64 h, .slice a4 n4 c4, .slice a5 n5 c5])) w' := by
  cases st with
  | error e =>
    obtain rfl := hp.2 e rfl
    exact ⟨_, rfl, ⟨_, _, _, _, _, _, _, _, _, _, rfl⟩, hs, hg⟩
  | ok ps =>
    obtain ⟨a, h1, h2⟩ := hp.1 ps rfl
    have hn : ¬ hd ps = sPlus := by simpa [nxtB] using hb
    have hn2 : ¬ hd ps = sMinus := by simpa [nxtB] using hb2
    rw [sum_no (fun h => h.elim hn hn2)] at h2
    subst h2
    exact ⟨_, rfl, ⟨_, rfl, QN.kp (KG.refl _ _) (fun g h _ => hG g h) a h1⟩, hs, hg⟩
theorem su_much {p : List Pc → PR Qu} {G : Nat → Prop} {w w' : World} {n : Nat} {ps : List Pc} {cs cs' : List Value} {r : PR Qu} (hp : SuR p G w n (.ok ps) cs r) (hl : hd ps = sPlus ∨ hd ps = sMinus) (hn : n = 64) : SuR p G w' n (.error (4, hat ps)) cs' r := by
  obtain ⟨a, h1, h2⟩ := hp.1 ps rfl
  subst hn
  rw [show 64 - 64 = 0 from rfl, sum_much hl] at h2
  exact ⟨fun ps h => (by cases h), fun e h => (by cases h; exact h2)⟩
theorem su_next {p : List Pc → PR Qu} {G : Nat → Prop} {w w' : World} {n g : Nat} {kd : Int} {ps : List Pc} {cs ds : List Value} {r r6 : PR Qu} (hp : SuR p G w n (.ok ps) cs r) (hl : hd ps = sPlus ∨ hd ps = sMinus) (hn : n < 64) (h6 : p ps.tail = r6) (hkd : (if hd ps = sPlus then 4 else 5) = kd)
    (hq : ∀ b q, r6 = .ok (b, q) → QN G w' b ds) (hk : KG G w w') (hg : G g) (hgl : g < w'.heap.size) (hc : ∀ (j : Nat) u, (cs ++ ds)[j]? = some u → w'.cell? ⟨g, j, none⟩ = some u) :
    SuR p G w' (n + 1) (nxS r6) [.int .i64 kd, .string ⟨#[]⟩, .int .i64 0, .int .i64 0, .slice none 0 0, .slice (some ⟨g, 0, none⟩) 2 2] r := by
  obtain ⟨a, h1, h2⟩ := hp.1 ps rfl
  have e : 64 - n = (64 - (n + 1)) + 1 := by omega
  rw [e, sumL, if_pos hl] at h2
  simp only [h6, hkd] at h2
  cases r6 with
  | error e => exact ⟨fun q h => (by cases h), fun e' h => (by cases h; exact h2)⟩
  | ok y =>
    obtain ⟨b, q⟩ := y
    refine ⟨fun q' h => ?_, fun e' h => (by cases h)⟩
    cases h
    exact ⟨.node kd [] 0 0 [] 2 a b, ⟨_, _, rfl, .inl ⟨rfl, rfl⟩, .inr (.inr ⟨rfl, g, 2, cs, ds, rfl, Nat.le_refl _, hg, hgl, QN.kp hk (fun g h _ => h) a h1, hq b q rfl, hc⟩)⟩, h2⟩
set_option maxHeartbeats 1000000 in
set_option maxRecDepth 100000 in
theorem ask_dead {w : World} {R P0 : Nat} {e : Int × Nat} (h : SS w R P0 (.error e)) (lv : Int) (c1 : ¬ (64 : Int) < lv) : Calls Tryd.prog 19 #[ptR R, .int .i64 lv] w (SP w R P0 (VN w.heap.size) GN (.error e)) := by
  have hRl := h.lt
  have hPl := h.pl
  have hXR : w.heap.size ≠ R := by omega
  have hXP : w.heap.size ≠ P0 := by omega
  obtain ⟨W0, hW0⟩ : ∃ W0, w.alloc (.cells #[.int .i64 0, .string ⟨#[]⟩, .int .i64 0, .int .i64 0, .slice none 0 0, .slice none 0 0] 25) = W0 := ⟨_, rfl⟩
  have hb0 : Below w.heap.size w W0 := hW0 ▸ ba _ _
  have HB0 : Hid (Bx W0 w.heap.size z6) := hW0 ▸ Bx.new w z6 25 rfl
  have HG0 : Hid (w.grownBy W0 (some R)) := gb_below hb0
  have hz0 : w.heap.size < W0.heap.size := (HB0.out 0 _ rfl).lt
  have HB1 : Hid (Bx W0 w.heap.size z6) := HB0
  have HG1 : Hid (w.grownBy W0 (some R)) := HG0
  have HS1 : Hid (SS W0 R P0 (.error e)) := h.at hb0
  have c2 : decide ((64 : Int) < lv) = false := decide_eq_false c1
  clear h hb0
  obtain ⟨q2, hx⟩ := HS1.out.dead
  obtain ⟨k, x⟩ := e
  simp only at q2 hx
  have d : (k == 0) = false := by simpa using hx
  have d2 : (k != 0) = true := by simpa using hx
  have z0 := (HB1.out 0 _ rfl).c
  have z1 := (HB1.out 1 _ rfl).c
  have z2 := (HB1.out 2 _ rfl).c
  have z3 := (HB1.out 3 _ rfl).c
  have z4 := (HB1.out 4 _ rfl).c
  have z5 := (HB1.out 5 _ rfl).c
  have y0 := (HB1.out 0 _ rfl).f
  have y1 := (HB1.out 1 _ rfl).f
  have y2 := (HB1.out 2 _ rfl).f
  have y3 := (HB1.out 3 _ rfl).f
  have y4 := (HB1.out 4 _ rfl).f
  have y5 := (HB1.out 5 _ rfl).f
  obtain ⟨W7, hW7⟩ : ∃ W7, set6 W0 w.heap.size (.int .i64 0) (.string ⟨#[]⟩) (.int .i64 0) (.int .i64 0) (.slice none 0 0) (.slice none 0 0) = W7 := ⟨_, rfl⟩
  have HB7 : Hid (Bx W7 w.heap.size z6) := hW7 ▸ set6_bx HB1.out _ _ _ _ _ _
  have HS7 : Hid (SS W7 R P0 (.error (k, x))) := hW7 ▸ HS1.out.six hXR hXP _ _ _ _ _ _
  have HG7 : Hid (w.grownBy W7 (some R)) := hW7 ▸ set6_gb HG1.out (Nat.le_refl _) _ _ _ _ _ _
  unfold set6 at hW7
  clear hx
  go_enter Tryd.func19, Tryd.ntmps19
  go_wp2
  have x0 := (HB7.out 0 _ rfl).c
  have x1 := (HB7.out 1 _ rfl).c
  have x2 := (HB7.out 2 _ rfl).c
  have x3 := (HB7.out 3 _ rfl).c
  have x4 := (HB7.out 4 _ rfl).c
  have x5 := (HB7.out 5 _ rfl).c
  exact bodyPost_ret (v := .agg #[.int .i64 0, .string ⟨#[]⟩, .int .i64 0, .int .i64 0, .slice none 0 0, .slice none 0 0]) (by simp [results, Tryd.results19, go_sem, x0, x1, x2, x3, x4, x5]) rfl ⟨_, rfl, ⟨0, [], 0, 0, none, 0, 0, none, 0, 0, rfl⟩, HS7.out, HG7.out⟩

set_option maxHeartbeats 1000000 in
set_option maxRecDepth 100000 in
theorem ask_top : QS 19 65 (qusP (prdP 0) 64) := by
  intro w R P0 st r h hr
  obtain ⟨ee, e1, e2⟩ := much_b st
  obtain rfl : .error ee = r := by
    rw [← hr]
    cases st with
    | error e => cases e1; rfl
    | ok ps => cases e1; rfl
  have hRl := h.lt
  have hPl := h.pl
  have hXR : w.heap.size ≠ R := by omega
  have hXP : w.heap.size ≠ P0 := by omega
  obtain ⟨W0, hW0⟩ : ∃ W0, w.alloc (.cells #[.int .i64 0, .string ⟨#[]⟩, .int .i64 0, .int .i64 0, .slice none 0 0, .slice none 0 0] 25) = W0 := ⟨_, rfl⟩
  have hb0 : Below w.heap.size w W0 := hW0 ▸ ba _ _
  have HB0 : Hid (Bx W0 w.heap.size z6) := hW0 ▸ Bx.new w z6 25 rfl
  have HG0 : Hid (w.grownBy W0 (some R)) := gb_below hb0
  have hz0 : w.heap.size < W0.heap.size := (HB0.out 0 _ rfl).lt
  have kb := bad_any (h.at hb0) 4 (by decide)
  rw [e1] at kb
  clear h hb0 hr e1 e2
  go_enter Tryd.func19, Tryd.ntmps19
  go_wp2_with fail
  clear hW0
  refine kb.mono ?_
  rintro e w1 ⟨rfl, hs, hg⟩
  have HB1 : Hid (Bx w1 w.heap.size z6) := HB0.out.gb hg hXR
  have HS1 : Hid (SS w1 R P0 (.error ee)) := hs
  have HG1 : Hid (w.grownBy w1 (some R)) := gb_trans HG0.out hg
  clear kb hs hg
  obtain ⟨q2, hx⟩ := HS1.out.dead
  obtain ⟨k, x⟩ := ee
  simp only at q2 hx
  have d : (k == 0) = false := by simpa using hx
  have d2 : (k != 0) = true := by simpa using hx
  have z0 := (HB1.out 0 _ rfl).c
  have z1 := (HB1.out 1 _ rfl).c
  have z2 := (HB1.out 2 _ rfl).c
  have z3 := (HB1.out 3 _ rfl).c
  have z4 := (HB1.out 4 _ rfl).c
  have z5 := (HB1.out 5 _ rfl).c
  have y0 := (HB1.out 0 _ rfl).f
  have y1 := (HB1.out 1 _ rfl).f
  have y2 := (HB1.out 2 _ rfl).f
  have y3 := (HB1.out 3 _ rfl).f
  have y4 := (HB1.out 4 _ rfl).f
  have y5 := (HB1.out 5 _ rfl).f
  obtain ⟨W7, hW7⟩ : ∃ W7, set6 w1 w.heap.size (.int .i64 0) (.string ⟨#[]⟩) (.int .i64 0) (.int .i64 0) (.slice none 0 0) (.slice none 0 0) = W7 := ⟨_, rfl⟩
  have HB7 : Hid (Bx W7 w.heap.size z6) := hW7 ▸ set6_bx HB1.out _ _ _ _ _ _
  have HS7 : Hid (SS W7 R P0 (.error (k, x))) := hW7 ▸ HS1.out.six hXR hXP _ _ _ _ _ _
  have HG7 : Hid (w.grownBy W7 (some R)) := hW7 ▸ set6_gb HG1.out (Nat.le_refl _) _ _ _ _ _ _
  unfold set6 at hW7
  clear hx
  go_wp2
  have x0 := (HB7.out 0 _ rfl).c
  have x1 := (HB7.out 1 _ rfl).c
  have x2 := (HB7.out 2 _ rfl).c
  have x3 := (HB7.out 3 _ rfl).c
  have x4 := (HB7.out 4 _ rfl).c
  have x5 := (HB7.out 5 _ rfl).c
  exact bodyPost_ret (v := .agg #[.int .i64 0, .string ⟨#[]⟩, .int .i64 0, .int .i64 0, .slice none 0 0, .slice none 0 0]) (by simp [results, Tryd.results19, go_sem, x0, x1, x2, x3, x4, x5]) rfl ⟨_, rfl, ⟨0, [], 0, 0, none, 0, 0, none, 0, 0, rfl⟩, HS7.out, HG7.out⟩

set_option maxHeartbeats 3000000 in
set_option maxRecDepth 100000 in
theorem ask_of {p : List Pc → PR Qu} {lv : Int} (hlv : ¬ (64 : Int) < lv) (hp : QS 34 lv p) : QS 19 lv (qusP p 64) := by
  intro w R P0 st r h hr
  cases st with
  | error e =>
    obtain rfl : .error e = r := hr
    exact ask_dead h lv hlv
  | ok ps =>
    have hRl := h.lt
    have hPl := h.pl
    have hXR : w.heap.size ≠ R := by omega
    have hXP : w.heap.size ≠ P0 := by omega
    obtain ⟨W0, hW0⟩ : ∃ W0, w.alloc (.cells #[.int .i64 0, .string ⟨#[]⟩, .int .i64 0, .int .i64 0, .slice none 0 0, .slice none 0 0] 25) = W0 := ⟨_, rfl⟩
    have hb0 : Below w.heap.size w W0 := hW0 ▸ ba _ _
    have HB0 : Hid (Bx W0 w.heap.size z6) := hW0 ▸ Bx.new w z6 25 rfl
    have HG0 : Hid (w.grownBy W0 (some R)) := gb_below hb0
    have hz0 : w.heap.size < W0.heap.size := (HB0.out 0 _ rfl).lt
    have HS0 : Hid (SS W0 R P0 (.ok ps)) := h.at hb0
    have HPP : Hid (QS 34 lv p) := hp
    have c2 : decide ((64 : Int) < lv) = false := decide_eq_false hlv
    obtain ⟨cc, i, n, q0, q1, q2, q3, hin, hnc, hn6, p0, p1, hPR, _, _, _, _⟩ := HS0.out.alive
    obtain ⟨r1, hr1⟩ : ∃ r1, p ps = r1 := ⟨_, rfl⟩
    have k1 := hp W0 R P0 (.ok ps) r1 HS0.out hr1
    have HR1 : Hid (p ps = r1) := hr1
    have HRR : Hid (qusP p 64 ps = r) := hr
    clear h hr hr1 hp hb0 q0 q1 q3 p0 p1 hin hnc hn6 hPR
    go_enter Tryd.func19, Tryd.ntmps19
    go_wp2_with fail
    clear hW0 q2
    refine k1.mono ?_
    intro e w2 hsp
    obtain ⟨ka, ca, la, ha, a4a, n4a, c4a, a5a, n5a, c5a, rfl, hqa, hs, hg⟩ := hsp.ask
    have HB2 : Hid (Bx w2 w.heap.size z6) := HB0.out.gb hg hXR
    have HG2 : Hid (w.grownBy w2 (some R)) := gb_trans HG0.out hg
    have HS2 : Hid (SS w2 R P0 (nxS r1)) := hs
    have hz2 : w.heap.size < w2.heap.size := (HB2.out 0 _ rfl).lt
    obtain ⟨W3, hW3⟩ : ∃ W3, w2.alloc (.cells #[.int .i64 ka, .string (tx ca), .int .i64 la, .int .i64 ha, .slice a4a n4a c4a, .slice a5a n5a c5a] 25) = W3 := ⟨_, rfl⟩
    have hb3 : Below w2.heap.size w2 W3 := hW3 ▸ ba _ _
    obtain ⟨b5, hb5⟩ : ∃ b5, w2.heap.size = b5 := ⟨_, rfl⟩
    have HK3 : Hid (Bx W3 b5 [.int .i64 ka, .string (tx ca), .int .i64 la, .int .i64 ha, .slice a4a n4a c4a, .slice a5a n5a c5a]) := hW3 ▸ Bx.new w2 [.int .i64 ka, .string (tx ca), .int .i64 la, .int .i64 ha, .slice a4a n4a c4a, .slice a5a n5a c5a] 25 hb5.symm
    have HB3 : Hid (Bx W3 w.heap.size z6) := HB2.out.at hb3
    have HS3 : Hid (SS W3 R P0 (nxS r1)) := HS2.out.at hb3
    have HG3 : Hid (w.grownBy W3 (some R)) := gb_trans HG2.out (gb_below hb3)
    have HP3 : Hid (SuR p (fun g => w.heap.size < g ∧ g ≠ b5) W3 0 (nxS r1) [.int .i64 ka, .string (tx ca), .int .i64 la, .int .i64 ha, .slice a4a n4a c4a, .slice a5a n5a c5a] r) := su_start HR1.out HRR.out fun a q e => QN.kp (KG.bl hb3) (fun g h hl => by have h' : W0.heap.size ≤ g := h; exact ⟨by omega, by omega⟩) a (hqa a q e)
    have hbw : w.heap.size < b5 := by omega
    have hbR : b5 ≠ R := by omega
    have hbP : b5 ≠ P0 := by omega
    obtain ⟨s3, hs3⟩ : ∃ s3, nxS r1 = s3 := ⟨_, rfl⟩
    rw [hs3] at HS3 HP3
    clear k1 hsp hqa hs hg hb3 hs3
    go_wp2
    clear hW3 hb5
    go_loopw [6] (fun nv wr => ∃ (n : Nat) (st : St) (ka : Int) (ca : By) (la ha : Int) (a4a : Option Addr) (n4a c4a : Nat) (a5a : Option Addr) (n5a c5a : Nat), nv = .int .i64 (n : Int) ∧ n ≤ 64 ∧ Hid (SuR p (fun g => w.heap.size < g ∧ g ≠ b5) wr n st [.int .i64 ka, .string (tx ca), .int .i64 la, .int .i64 ha, .slice a4a n4a c4a, .slice a5a n5a c5a] r) ∧ Hid (SS wr R P0 st) ∧ Hid (w.grownBy wr (some R)) ∧ Hid (Bx wr w.heap.size z6) ∧ Hid (Bx wr b5 [.int .i64 ka, .string (tx ca), .int .i64 la, .int .i64 ha, .slice a4a n4a c4a, .slice a5a n5a c5a])) (fun nv _ => 64 - (intOf nv).toNat)
    case atStart => exact ⟨0, s3, ka, ca, la, ha, a4a, n4a, c4a, a5a, n5a, c5a, rfl, by omega, HP3, HS3, HG3, HB3, HK3⟩
    case round =>
      clear HP3 HS3 HG3 HB3 HK3 HB2 HG2 HS2 HR1 HRR HS0
      obtain ⟨n, st, ka, ca, la, ha, a4a, n4a, c4a, a5a, n5a, c5a, rfl, hn, HP, HS, HG, HBw, HB6⟩ := hrel
      obtain ⟨b, hb⟩ : ∃ b, nxtB sPlus st = b := ⟨_, rfl⟩
      have kn := rnxt_any HS.out sPlus (by decide) b hb
      have HB : Hid (nxtB sPlus st = b) := hb
      clear hb
      go_wp2_with fail
      refine kn.mono ?_
      rintro e w3 ⟨rfl, hb3⟩
      have HP3 : Hid (SuR p (fun g => w.heap.size < g ∧ g ≠ b5) w3 n st [.int .i64 ka, .string (tx ca), .int .i64 la, .int .i64 ha, .slice a4a n4a c4a, .slice a5a n5a c5a] r) := HP.out.kp (KG.bl hb3)
      have HS3 : Hid (SS w3 R P0 st) := HS.out.at hb3
      have HG3 : Hid (w.grownBy w3 (some R)) := gb_trans HG.out (gb_below hb3)
      have HBw3 : Hid (Bx w3 w.heap.size z6) := HBw.out.at hb3
      have HB63 : Hid (Bx w3 b5 [.int .i64 ka, .string (tx ca), .int .i64 la, .int .i64 ha, .slice a4a n4a c4a, .slice a5a n5a c5a]) := HB6.out.at hb3
      clear kn hb3 HP HS HG HBw HB6
      cases b with
      | true =>
        cases st with
        | error e => have := HB.out; cases this
        | ok ps =>
          have h2 : hd ps = sPlus := by simpa [nxtB] using HB.out
          have H2 : Hid (hd ps = sPlus ∨ hd ps = sMinus) := .inl h2
          have HM : Hid (nxtB sMinus (.ok ps) = false) := by rw [Hid, nxtB, h2]; decide
          have HKD : Hid ((if hd ps = sPlus then (4 : Int) else 5) = 4) := if_pos h2
          have HP4 : Hid (SuR p (fun g => w.heap.size < g ∧ g ≠ b5) w3 n (.ok ps) [.int .i64 ka, .string (tx ca), .int .i64 la, .int .i64 ha, .slice a4a n4a c4a, .slice a5a n5a c5a] r) := HP3
          have HS4 : Hid (SS w3 R P0 (.ok ps)) := HS3
          have HG4 : Hid (w.grownBy w3 (some R)) := HG3
          have HBw4 : Hid (Bx w3 w.heap.size z6) := HBw3
          have HB64 : Hid (Bx w3 b5 [.int .i64 ka, .string (tx ca), .int .i64 la, .int .i64 ha, .slice a4a n4a c4a, .slice a5a n5a c5a]) := HB63
          clear h2 HB HP3 HS3 HG3 HBw3 HB63
          by_cases c64 : n = 64
          · have c1 : ((n : Int) == 64) = true := by rw [c64]; rfl
            have kb := bad_any HS4.out 4 (by decide)
            have HC : Hid (n = 64) := c64
            clear c64
            go_wp2_with fail
            refine kb.mono ?_
            rintro e w5 ⟨rfl, hs, hg⟩
            have HS5 : Hid (SS w5 R P0 (.error (4, hat ps))) := hs
            have HG5 : Hid (w.grownBy w5 (some R)) := gb_trans HG4.out hg
            have HBw5 : Hid (Bx w5 w.heap.size z6) := HBw4.out.gb hg hXR
            have HB65 : Hid (Bx w5 b5 [.int .i64 ka, .string (tx ca), .int .i64 la, .int .i64 ha, .slice a4a n4a c4a, .slice a5a n5a c5a]) := HB64.out.gb hg hbR
            have HP5 : Hid (SuR p (fun g => w.heap.size < g ∧ g ≠ b5) w5 n (.error (4, hat ps)) [.int .i64 ka, .string (tx ca), .int .i64 la, .int .i64 ha, .slice a4a n4a c4a, .slice a5a n5a c5a] r) := su_much HP4.out H2.out HC.out
            clear kb hs hg HP4 HS4 HG4 HBw4 HB64
            have s0 := (HB65.out 0 _ rfl).c
            have s1 := (HB65.out 1 _ rfl).c
            have s2 := (HB65.out 2 _ rfl).c
            have s3 := (HB65.out 3 _ rfl).c
            have s4 := (HB65.out 4 _ rfl).c
            have s5 := (HB65.out 5 _ rfl).c
            have z0 := (HBw5.out 0 _ rfl).c
            have z1 := (HBw5.out 1 _ rfl).c
            have z2 := (HBw5.out 2 _ rfl).c
            have z3 := (HBw5.out 3 _ rfl).c
            have z4 := (HBw5.out 4 _ rfl).c
            have z5 := (HBw5.out 5 _ rfl).c
            have y0 := (HBw5.out 0 _ rfl).f
            have y1 := (HBw5.out 1 _ rfl).f
            have y2 := (HBw5.out 2 _ rfl).f
            have y3 := (HBw5.out 3 _ rfl).f
            have y4 := (HBw5.out 4 _ rfl).f
            have y5 := (HBw5.out 5 _ rfl).f
            obtain ⟨W9, hW9⟩ : ∃ W9, set6 w5 w.heap.size (.int .i64 ka) (.string (tx ca)) (.int .i64 la) (.int .i64 ha) (.slice a4a n4a c4a) (.slice a5a n5a c5a) = W9 := ⟨_, rfl⟩
            have HB9 : Hid (Bx W9 w.heap.size [.int .i64 ka, .string (tx ca), .int .i64 la, .int .i64 ha, .slice a4a n4a c4a, .slice a5a n5a c5a]) := hW9 ▸ set6_bx HBw5.out _ _ _ _ _ _
            have HS9 : Hid (SS W9 R P0 _) := hW9 ▸ HS5.out.six hXR hXP _ _ _ _ _ _
            have HG9 : Hid (w.grownBy W9 (some R)) := hW9 ▸ set6_gb HG5.out (Nat.le_refl _) _ _ _ _ _ _
            have HP9 : Hid (SuR p (fun g => w.heap.size < g ∧ g ≠ b5) W9 n _ [.int .i64 ka, .string (tx ca), .int .i64 la, .int .i64 ha, .slice a4a n4a c4a, .slice a5a n5a c5a] r) := HP5.out.kp (hW9 ▸ KG.six (fun h => Nat.lt_irrefl _ h.1) _ _ _ _ _ _)
            unfold set6 at hW9
            go_wp2
            clear hW9
            have x0 := (HB9.out 0 _ rfl).c
            have x1 := (HB9.out 1 _ rfl).c
            have x2 := (HB9.out 2 _ rfl).c
            have x3 := (HB9.out 3 _ rfl).c
            have x4 := (HB9.out 4 _ rfl).c
            have x5 := (HB9.out 5 _ rfl).c
            exact bodyPost_ret (v := .agg #[.int .i64 ka, .string (tx ca), .int .i64 la, .int .i64 ha, .slice a4a n4a c4a, .slice a5a n5a c5a]) (by simp [results, Tryd.results19, go_sem, x0, x1, x2, x3, x4, x5]) rfl (su_end HP9.out (fun g h => Nat.le_of_lt h.1) HS9.out HG9.out rfl rfl)
          · have c1 : ((n : Int) == 64) = false := by
              rw [beq_eq_false_iff_ne]; omega
            have HN : Hid (n < 64) := by rw [Hid]; omega
            have km := rnxt_any HS4.out sMinus (by decide) false HM.out
            clear c64
            go_wp2_with fail
            refine km.mono ?_
            rintro e w5 ⟨rfl, hb5⟩
            have HP5 : Hid (SuR p (fun g => w.heap.size < g ∧ g ≠ b5) w5 n (.ok ps) [.int .i64 ka, .string (tx ca), .int .i64 la, .int .i64 ha, .slice a4a n4a c4a, .slice a5a n5a c5a] r) := HP4.out.kp (KG.bl hb5)
            have HS5 : Hid (SS w5 R P0 (.ok ps)) := HS4.out.at hb5
            have HG5 : Hid (w.grownBy w5 (some R)) := gb_trans HG4.out (gb_below hb5)
            have HBw5 : Hid (Bx w5 w.heap.size z6) := HBw4.out.at hb5
            have HB65 : Hid (Bx w5 b5 [.int .i64 ka, .string (tx ca), .int .i64 la, .int .i64 ha, .slice a4a n4a c4a, .slice a5a n5a c5a]) := HB64.out.at hb5
            clear km hb5 HP4 HS4 HG4 HBw4 HB64
            obtain ⟨cc, i, m, q0, q1, q2, q3, hin, hnc, hn6, p0, p1, hPR, _, _, _, hfz⟩ := HS5.out.alive
            have z1 : w5.frozen? ⟨R, 1, none⟩ = false := (hfz 1).resolve_right (by omega)
            have hw : IntKind.i64.wrap ((i : Int) + 1) = (i : Int) + 1 := by rw [IntKind.wrap_i64]; omega
            obtain ⟨W6, hW6⟩ : ∃ W6, w5.setCell ⟨R, 1, none⟩ (.int .i64 ((i : Int) + 1)) = W6 := ⟨_, rfl⟩
            have HK6 : Hid (KG (fun g => w.heap.size < g ∧ g ≠ b5) w5 W6) := hW6 ▸ KG.put (fun h => by have := h.1; omega) _ _
            have HS6 : Hid (SS W6 R P0 (.ok ps.tail)) := hW6 ▸ (show SS (w5.setCell ⟨R, 1, none⟩ (.int .i64 ((i : Int) + 1))) R P0 (.ok ps.tail) from HS5.out.step q1 (by have := H2.out; rcases this with h | h <;> rw [h] <;> decide))
            have HG6 : Hid (w.grownBy W6 (some R)) := hW6 ▸ gb_set HG5.out 1 _
            have HBw6 : Hid (Bx W6 w.heap.size z6) := hW6 ▸ HBw5.out.oth hXR.symm _
            have HB66 : Hid (Bx W6 b5 [.int .i64 ka, .string (tx ca), .int .i64 la, .int .i64 ha, .slice a4a n4a c4a, .slice a5a n5a c5a]) := hW6 ▸ HB65.out.oth hbR.symm _
            have hz6 : b5 < W6.heap.size := (HB66.out 0 _ rfl).lt
            obtain ⟨r6, hr6⟩ : ∃ r6, p ps.tail = r6 := ⟨_, rfl⟩
            have k6 := HPP.out W6 R P0 (.ok ps.tail) r6 HS6.out hr6
            have HR6 : Hid (p ps.tail = r6) := hr6
            clear hfz hr6
            go_wp2_with fail
            clear hW6 q0 q1 q2 q3 p0 p1 z1 hw HS5 HG5 HBw5 HB65
            refine k6.mono ?_
            intro e w7 hsp
            obtain ⟨kb, cb, lb, hb, a4b, n4b, c4b, a5b, n5b, c5b, rfl, hqb, hs, hg⟩ := hsp.ask
            have HQ7 : Hid (∀ a q, r6 = .ok (a, q) → QN (fun g => W6.heap.size ≤ g) w7 a [.int .i64 kb, .string (tx cb), .int .i64 lb, .int .i64 hb, .slice a4b n4b c4b, .slice a5b n5b c5b]) := hqb
            have HK7 : Hid (KG (fun g => w.heap.size < g ∧ g ≠ b5) w5 w7) := HK6.out.trans (KG.gb hg (fun h => by have := h.1; omega))
            have HG7 : Hid (w.grownBy w7 (some R)) := gb_trans HG6.out hg
            have HBw7 : Hid (Bx w7 w.heap.size z6) := HBw6.out.gb hg hXR
            have HB67 : Hid (Bx w7 b5 [.int .i64 ka, .string (tx ca), .int .i64 la, .int .i64 ha, .slice a4a n4a c4a, .slice a5a n5a c5a]) := HB66.out.gb hg hbR
            have HS7 : Hid (SS w7 R P0 (nxS r6)) := hs
            have hz7 : b5 < w7.heap.size := (HB67.out 0 _ rfl).lt
            clear k6 hsp hqb hs hg HK6 HG6 HBw6 HB66 HS6
            obtain ⟨W8, hW8⟩ : ∃ W8, w7.alloc (.cells #[.int .i64 kb, .string (tx cb), .int .i64 lb, .int .i64 hb, .slice a4b n4b c4b, .slice a5b n5b c5b] 25) = W8 := ⟨_, rfl⟩
            have hb8 : Below w7.heap.size w7 W8 := hW8 ▸ ba _ _
            have HE8 : Hid (Bx W8 w7.heap.size [.int .i64 kb, .string (tx cb), .int .i64 lb, .int .i64 hb, .slice a4b n4b c4b, .slice a5b n5b c5b]) := hW8 ▸ Bx.new w7 [.int .i64 kb, .string (tx cb), .int .i64 lb, .int .i64 hb, .slice a4b n4b c4b, .slice a5b n5b c5b] 25 rfl
            have HB68 : Hid (Bx W8 b5 [.int .i64 ka, .string (tx ca), .int .i64 la, .int .i64 ha, .slice a4a n4a c4a, .slice a5a n5a c5a]) := HB67.out.at hb8
            have hz8 : b5 < W8.heap.size := (HB68.out 0 _ rfl).lt
            have u0 := (HB68.out 0 _ rfl).c
            have u1 := (HB68.out 1 _ rfl).c
            have u2 := (HB68.out 2 _ rfl).c
            have u3 := (HB68.out 3 _ rfl).c
            have u4 := (HB68.out 4 _ rfl).c
            have u5 := (HB68.out 5 _ rfl).c
            have v0 := (HE8.out 0 _ rfl).c
            have v1 := (HE8.out 1 _ rfl).c
            have v2 := (HE8.out 2 _ rfl).c
            have v3 := (HE8.out 3 _ rfl).c
            have v4 := (HE8.out 4 _ rfl).c
            have v5 := (HE8.out 5 _ rfl).c
            obtain ⟨WA, hWA⟩ : ∃ WA, W8.alloc (.cells #[.int .i64 ka, .string (tx ca), .int .i64 la, .int .i64 ha, .slice a4a n4a c4a, .slice a5a n5a c5a, .int .i64 kb, .string (tx cb), .int .i64 lb, .int .i64 hb, .slice a4b n4b c4b, .slice a5b n5b c5b] 25) = WA := ⟨_, rfl⟩
            have hbA : Below W8.heap.size W8 WA := hWA ▸ ba _ _
            have HKA : Hid (Bx WA W8.heap.size [.int .i64 ka, .string (tx ca), .int .i64 la, .int .i64 ha, .slice a4a n4a c4a, .slice a5a n5a c5a, .int .i64 kb, .string (tx cb), .int .i64 lb, .int .i64 hb, .slice a4b n4b c4b, .slice a5b n5b c5b]) := hWA ▸ Bx.new W8 [.int .i64 ka, .string (tx ca), .int .i64 la, .int .i64 ha, .slice a4a n4a c4a, .slice a5a n5a c5a, .int .i64 kb, .string (tx cb), .int .i64 lb, .int .i64 hb, .slice a4b n4b c4b, .slice a5b n5b c5b] 25 rfl
            have HB6A : Hid (Bx WA b5 [.int .i64 ka, .string (tx ca), .int .i64 la, .int .i64 ha, .slice a4a n4a c4a, .slice a5a n5a c5a]) := HB68.out.at hbA
            have z0 := (HB6A.out 0 _ rfl).c
            have z1 := (HB6A.out 1 _ rfl).c
            have z2 := (HB6A.out 2 _ rfl).c
            have z3 := (HB6A.out 3 _ rfl).c
            have z4 := (HB6A.out 4 _ rfl).c
            have z5 := (HB6A.out 5 _ rfl).c
            have y0 := (HB6A.out 0 _ rfl).f
            have y1 := (HB6A.out 1 _ rfl).f
            have y2 := (HB6A.out 2 _ rfl).f
            have y3 := (HB6A.out 3 _ rfl).f
            have y4 := (HB6A.out 4 _ rfl).f
            have y5 := (HB6A.out 5 _ rfl).f
            obtain ⟨W9, hW9⟩ : ∃ W9, set6 WA b5 (.int .i64 4) (.string ⟨#[]⟩) (.int .i64 0) (.int .i64 0) (.slice none 0 0) (.slice (some ⟨W8.heap.size, 0, none⟩) 2 2) = W9 := ⟨_, rfl⟩
            have hk9 : KG (fun g => w.heap.size < g ∧ g ≠ b5) WA W9 := hW9 ▸ KG.six (fun h => h.2 rfl) _ _ _ _ _ _
            have hG9 : w.heap.size < W8.heap.size ∧ W8.heap.size ≠ b5 := ⟨by omega, by omega⟩
            have hk79 : KG (fun g => w.heap.size < g ∧ g ≠ b5) w7 W9 := (KG.bl hb8).trans ((KG.bl hbA).trans hk9)
            have HP9 : Hid (SuR p (fun g => w.heap.size < g ∧ g ≠ b5) W9 (n + 1) (nxS r6) [.int .i64 4, .string (tx []), .int .i64 0, .int .i64 0, .slice none 0 0, .slice (some ⟨W8.heap.size, 0, none⟩) 2 2] r) :=
              su_next HP5.out H2.out HN.out HR6.out HKD.out (fun b q e => QN.kp hk79 (fun g h _ => h) b (QN.kp (KG.refl _ _) (fun g h _ => by have h' : W6.heap.size ≤ g := h; exact ⟨by omega, by omega⟩) b (HQ7.out b q e))) (HK7.out.trans hk79) hG9 (Nat.lt_of_lt_of_le (HKA.out 0 _ rfl).lt hk9.1) (fun j u hu => (hk9.cell (g := W8.heap.size) (k := j) hG9 (HKA.out 0 _ rfl).lt).trans (HKA.out j u hu).c)
            have HS9 : Hid (SS W9 R P0 (nxS r6)) := hW9 ▸ ((HS7.out.at hb8).at hbA).six hbR hbP _ _ _ _ _ _
            have HG9 : Hid (w.grownBy W9 (some R)) := hW9 ▸ set6_gb (gb_trans (gb_trans HG7.out (gb_below hb8)) (gb_below hbA)) (Nat.le_of_lt hbw) _ _ _ _ _ _
            have HBw9 : Hid (Bx W9 w.heap.size z6) := hW9 ▸ ((HBw7.out.at hb8).at hbA).sixo (by omega) _ _ _ _ _ _
            have HB69 : Hid (Bx W9 b5 [.int .i64 4, .string (tx []), .int .i64 0, .int .i64 0, .slice none 0 0, .slice (some ⟨W8.heap.size, 0, none⟩) 2 2]) := hW9 ▸ set6_bx HB6A.out _ _ _ _ _ _
            have hwn : IntKind.i64.wrap ((n : Int) + 1) = (n : Int) + 1 := by rw [IntKind.wrap_i64]; omega
            have hn1 : n + 1 ≤ 64 := HN.out
            unfold set6 at hW9
            clear hb8 hbA hk9 hk79 hG9
            go_wp2
            clear hW8 hWA hW9
            go_roundw
            case rel => exact ⟨n + 1, nxS r6, 4, [], 0, 0, none, 0, 0, some ⟨W8.heap.size, 0, none⟩, 2, 2, by go_num, hn1, HP9, HS9, HG9, HBw9, HB69⟩
            case measure => simp [intOf]; omega
      | false =>
        obtain ⟨b2, hb2⟩ : ∃ b2, nxtB sMinus st = b2 := ⟨_, rfl⟩
        have kn := rnxt_any HS3.out sMinus (by decide) b2 hb2
        have HM : Hid (nxtB sMinus st = b2) := hb2
        clear hb2
        go_wp2_with fail
        refine kn.mono ?_
        rintro e w4 ⟨rfl, hb4⟩
        have HP4 : Hid (SuR p (fun g => w.heap.size < g ∧ g ≠ b5) w4 n st [.int .i64 ka, .string (tx ca), .int .i64 la, .int .i64 ha, .slice a4a n4a c4a, .slice a5a n5a c5a] r) := HP3.out.kp (KG.bl hb4)
        have HS4 : Hid (SS w4 R P0 st) := HS3.out.at hb4
        have HG4 : Hid (w.grownBy w4 (some R)) := gb_trans HG3.out (gb_below hb4)
        have HBw4 : Hid (Bx w4 w.heap.size z6) := HBw3.out.at hb4
        have HB64 : Hid (Bx w4 b5 [.int .i64 ka, .string (tx ca), .int .i64 la, .int .i64 ha, .slice a4a n4a c4a, .slice a5a n5a c5a]) := HB63.out.at hb4
        clear kn hb4 HP3 HS3 HG3 HBw3 HB63
        cases b2 with
        | false =>
          have s0 := (HB64.out 0 _ rfl).c
          have s1 := (HB64.out 1 _ rfl).c
          have s2 := (HB64.out 2 _ rfl).c
          have s3 := (HB64.out 3 _ rfl).c
          have s4 := (HB64.out 4 _ rfl).c
          have s5 := (HB64.out 5 _ rfl).c
          have z0 := (HBw4.out 0 _ rfl).c
          have z1 := (HBw4.out 1 _ rfl).c
          have z2 := (HBw4.out 2 _ rfl).c
          have z3 := (HBw4.out 3 _ rfl).c
          have z4 := (HBw4.out 4 _ rfl).c
          have z5 := (HBw4.out 5 _ rfl).c
          have y0 := (HBw4.out 0 _ rfl).f
          have y1 := (HBw4.out 1 _ rfl).f
          have y2 := (HBw4.out 2 _ rfl).f
          have y3 := (HBw4.out 3 _ rfl).f
          have y4 := (HBw4.out 4 _ rfl).f
          have y5 := (HBw4.out 5 _ rfl).f
          obtain ⟨W9, hW9⟩ : ∃ W9, set6 w4 w.heap.size (.int .i64 ka) (.string (tx ca)) (.int .i64 la) (.int .i64 ha) (.slice a4a n4a c4a) (.slice a5a n5a c5a) = W9 := ⟨_, rfl⟩
          have HB9 : Hid (Bx W9 w.heap.size [.int .i64 ka, .string (tx ca), .int .i64 la, .int .i64 ha, .slice a4a n4a c4a, .slice a5a n5a c5a]) := hW9 ▸ set6_bx HBw4.out _ _ _ _ _ _
          have HS9 : Hid (SS W9 R P0 _) := hW9 ▸ HS4.out.six hXR hXP _ _ _ _ _ _
          have HG9 : Hid (w.grownBy W9 (some R)) := hW9 ▸ set6_gb HG4.out (Nat.le_refl _) _ _ _ _ _ _
          have HP9 : Hid (SuR p (fun g => w.heap.size < g ∧ g ≠ b5) W9 n _ [.int .i64 ka, .string (tx ca), .int .i64 la, .int .i64 ha, .slice a4a n4a c4a, .slice a5a n5a c5a] r) := HP4.out.kp (hW9 ▸ KG.six (fun h => Nat.lt_irrefl _ h.1) _ _ _ _ _ _)
          unfold set6 at hW9
          go_wp2
          clear hW9
          have x0 := (HB9.out 0 _ rfl).c
          have x1 := (HB9.out 1 _ rfl).c
          have x2 := (HB9.out 2 _ rfl).c
          have x3 := (HB9.out 3 _ rfl).c
          have x4 := (HB9.out 4 _ rfl).c
          have x5 := (HB9.out 5 _ rfl).c
          exact bodyPost_ret (v := .agg #[.int .i64 ka, .string (tx ca), .int .i64 la, .int .i64 ha, .slice a4a n4a c4a, .slice a5a n5a c5a]) (by simp [results, Tryd.results19, go_sem, x0, x1, x2, x3, x4, x5]) rfl (su_end HP9.out (fun g h => Nat.le_of_lt h.1) HS9.out HG9.out HB.out HM.out)
        | true =>
          cases st with
          | error e => have := HM.out; cases this
          | ok ps =>
            have h2 : hd ps = sMinus := by simpa [nxtB] using HM.out
            have H2 : Hid (hd ps = sPlus ∨ hd ps = sMinus) := .inr h2
            have HKD : Hid ((if hd ps = sPlus then (4 : Int) else 5) = 5) := if_neg (by rw [h2]; decide)
            clear h2 HB
            by_cases c64 : n = 64
            · have c1 : ((n : Int) == 64) = true := by rw [c64]; rfl
              have kb := bad_any HS4.out 4 (by decide)
              have HC : Hid (n = 64) := c64
              clear c64
              go_wp2_with fail
              refine kb.mono ?_
              rintro e w5 ⟨rfl, hs, hg⟩
              have HS5 : Hid (SS w5 R P0 (.error (4, hat ps))) := hs
              have HG5 : Hid (w.grownBy w5 (some R)) := gb_trans HG4.out hg
              have HBw5 : Hid (Bx w5 w.heap.size z6) := HBw4.out.gb hg hXR
              have HB65 : Hid (Bx w5 b5 [.int .i64 ka, .string (tx ca), .int .i64 la, .int .i64 ha, .slice a4a n4a c4a, .slice a5a n5a c5a]) := HB64.out.gb hg hbR
              have HP5 : Hid (SuR p (fun g => w.heap.size < g ∧ g ≠ b5) w5 n (.error (4, hat ps)) [.int .i64 ka, .string (tx ca), .int .i64 la, .int .i64 ha, .slice a4a n4a c4a, .slice a5a n5a c5a] r) := su_much HP4.out H2.out HC.out
              clear kb hs hg HP4 HS4 HG4 HBw4 HB64
              have s0 := (HB65.out 0 _ rfl).c
              have s1 := (HB65.out 1 _ rfl).c
              have s2 := (HB65.out 2 _ rfl).c
              have s3 := (HB65.out 3 _ rfl).c
              have s4 := (HB65.out 4 _ rfl).c
              have s5 := (HB65.out 5 _ rfl).c
              have z0 := (HBw5.out 0 _ rfl).c
              have z1 := (HBw5.out 1 _ rfl).c
              have z2 := (HBw5.out 2 _ rfl).c
              have z3 := (HBw5.out 3 _ rfl).c
              have z4 := (HBw5.out 4 _ rfl).c
              have z5 := (HBw5.out 5 _ rfl).c
              have y0 := (HBw5.out 0 _ rfl).f
              have y1 := (HBw5.out 1 _ rfl).f
              have y2 := (HBw5.out 2 _ rfl).f
              have y3 := (HBw5.out 3 _ rfl).f
              have y4 := (HBw5.out 4 _ rfl).f
              have y5 := (HBw5.out 5 _ rfl).f
              obtain ⟨W9, hW9⟩ : ∃ W9, set6 w5 w.heap.size (.int .i64 ka) (.string (tx ca)) (.int .i64 la) (.int .i64 ha) (.slice a4a n4a c4a) (.slice a5a n5a c5a) = W9 := ⟨_, rfl⟩
              have HB9 : Hid (Bx W9 w.heap.size [.int .i64 ka, .string (tx ca), .int .i64 la, .int .i64 ha, .slice a4a n4a c4a, .slice a5a n5a c5a]) := hW9 ▸ set6_bx HBw5.out _ _ _ _ _ _
              have HS9 : Hid (SS W9 R P0 _) := hW9 ▸ HS5.out.six hXR hXP _ _ _ _ _ _
              have HG9 : Hid (w.grownBy W9 (some R)) := hW9 ▸ set6_gb HG5.out (Nat.le_refl _) _ _ _ _ _ _
              have HP9 : Hid (SuR p (fun g => w.heap.size < g ∧ g ≠ b5) W9 n _ [.int .i64 ka, .string (tx ca), .int .i64 la, .int .i64 ha, .slice a4a n4a c4a, .slice a5a n5a c5a] r) := HP5.out.kp (hW9 ▸ KG.six (fun h => Nat.lt_irrefl _ h.1) _ _ _ _ _ _)
              unfold set6 at hW9
              go_wp2
              clear hW9
              have x0 := (HB9.out 0 _ rfl).c
              have x1 := (HB9.out 1 _ rfl).c
              have x2 := (HB9.out 2 _ rfl).c
              have x3 := (HB9.out 3 _ rfl).c
              have x4 := (HB9.out 4 _ rfl).c
              have x5 := (HB9.out 5 _ rfl).c
              exact bodyPost_ret (v := .agg #[.int .i64 ka, .string (tx ca), .int .i64 la, .int .i64 ha, .slice a4a n4a c4a, .slice a5a n5a c5a]) (by simp [results, Tryd.results19, go_sem, x0, x1, x2, x3, x4, x5]) rfl (su_end HP9.out (fun g h => Nat.le_of_lt h.1) HS9.out HG9.out rfl rfl)
            · have c1 : ((n : Int) == 64) = false := by
                rw [beq_eq_false_iff_ne]; omega
              have HN : Hid (n < 64) := by rw [Hid]; omega
              have km := rnxt_any HS4.out sMinus (by decide) true HM.out
              clear c64
              go_wp2_with fail
              refine km.mono ?_
              rintro e w5 ⟨rfl, hb5⟩
              have HP5 : Hid (SuR p (fun g => w.heap.size < g ∧ g ≠ b5) w5 n (.ok ps) [.int .i64 ka, .string (tx ca), .int .i64 la, .int .i64 ha, .slice a4a n4a c4a, .slice a5a n5a c5a] r) := HP4.out.kp (KG.bl hb5)
              have HS5 : Hid (SS w5 R P0 (.ok ps)) := HS4.out.at hb5
              have HG5 : Hid (w.grownBy w5 (some R)) := gb_trans HG4.out (gb_below hb5)
              have HBw5 : Hid (Bx w5 w.heap.size z6) := HBw4.out.at hb5
              have HB65 : Hid (Bx w5 b5 [.int .i64 ka, .string (tx ca), .int .i64 la, .int .i64 ha, .slice a4a n4a c4a, .slice a5a n5a c5a]) := HB64.out.at hb5
              clear km hb5 HP4 HS4 HG4 HBw4 HB64
              obtain ⟨cc, i, m, q0, q1, q2, q3, hin, hnc, hn6, p0, p1, hPR, _, _, _, hfz⟩ := HS5.out.alive
              have z1 : w5.frozen? ⟨R, 1, none⟩ = false := (hfz 1).resolve_right (by omega)
              have hw : IntKind.i64.wrap ((i : Int) + 1) = (i : Int) + 1 := by rw [IntKind.wrap_i64]; omega
              obtain ⟨W6, hW6⟩ : ∃ W6, w5.setCell ⟨R, 1, none⟩ (.int .i64 ((i : Int) + 1)) = W6 := ⟨_, rfl⟩
              have HK6 : Hid (KG (fun g => w.heap.size < g ∧ g ≠ b5) w5 W6) := hW6 ▸ KG.put (fun h => by have := h.1; omega) _ _
              have HS6 : Hid (SS W6 R P0 (.ok ps.tail)) := hW6 ▸ (show SS (w5.setCell ⟨R, 1, none⟩ (.int .i64 ((i : Int) + 1))) R P0 (.ok ps.tail) from HS5.out.step q1 (by have := H2.out; rcases this with h | h <;> rw [h] <;> decide))
              have HG6 : Hid (w.grownBy W6 (some R)) := hW6 ▸ gb_set HG5.out 1 _
              have HBw6 : Hid (Bx W6 w.heap.size z6) := hW6 ▸ HBw5.out.oth hXR.symm _
              have HB66 : Hid (Bx W6 b5 [.int .i64 ka, .string (tx ca), .int .i64 la, .int .i64 ha, .slice a4a n4a c4a, .slice a5a n5a c5a]) := hW6 ▸ HB65.out.oth hbR.symm _
              have hz6 : b5 < W6.heap.size := (HB66.out 0 _ rfl).lt
              obtain ⟨r6, hr6⟩ : ∃ r6, p ps.tail = r6 := ⟨_, rfl⟩
              have k6 := HPP.out W6 R P0 (.ok ps.tail) r6 HS6.out hr6
              have HR6 : Hid (p ps.tail = r6) := hr6
              clear hfz hr6
              go_wp2_with fail
              clear hW6 q0 q1 q2 q3 p0 p1 z1 hw HS5 HG5 HBw5 HB65
              refine k6.mono ?_
              intro e w7 hsp
              obtain ⟨kb, cb, lb, hb, a4b, n4b, c4b, a5b, n5b, c5b, rfl, hqb, hs, hg⟩ := hsp.ask
              have HQ7 : Hid (∀ a q, r6 = .ok (a, q) → QN (fun g => W6.heap.size ≤ g) w7 a [.int .i64 kb, .string (tx cb), .int .i64 lb, .int .i64 hb, .slice a4b n4b c4b, .slice a5b n5b c5b]) := hqb
              have HK7 : Hid (KG (fun g => w.heap.size < g ∧ g ≠ b5) w5 w7) := HK6.out.trans (KG.gb hg (fun h => by have := h.1; omega))
              have HG7 : Hid (w.grownBy w7 (some R)) := gb_trans HG6.out hg
              have HBw7 : Hid (Bx w7 w.heap.size z6) := HBw6.out.gb hg hXR
              have HB67 : Hid (Bx w7 b5 [.int .i64 ka, .string (tx ca), .int .i64 la, .int .i64 ha, .slice a4a n4a c4a, .slice a5a n5a c5a]) := HB66.out.gb hg hbR
              have HS7 : Hid (SS w7 R P0 (nxS r6)) := hs
              have hz7 : b5 < w7.heap.size := (HB67.out 0 _ rfl).lt
              clear k6 hsp hqb hs hg HK6 HG6 HBw6 HB66 HS6
              obtain ⟨W8, hW8⟩ : ∃ W8, w7.alloc (.cells #[.int .i64 kb, .string (tx cb), .int .i64 lb, .int .i64 hb, .slice a4b n4b c4b, .slice a5b n5b c5b] 25) = W8 := ⟨_, rfl⟩
              have hb8 : Below w7.heap.size w7 W8 := hW8 ▸ ba _ _
              have HE8 : Hid (Bx W8 w7.heap.size [.int .i64 kb, .string (tx cb), .int .i64 lb, .int .i64 hb, .slice a4b n4b c4b, .slice a5b n5b c5b]) := hW8 ▸ Bx.new w7 [.int .i64 kb, .string (tx cb), .int .i64 lb, .int .i64 hb, .slice a4b n4b c4b, .slice a5b n5b c5b] 25 rfl
              have HB68 : Hid (Bx W8 b5 [.int .i64 ka, .string (tx ca), .int .i64 la, .int .i64 ha, .slice a4a n4a c4a, .slice a5a n5a c5a]) := HB67.out.at hb8
              have hz8 : b5 < W8.heap.size := (HB68.out 0 _ rfl).lt
              have u0 := (HB68.out 0 _ rfl).c
              have u1 := (HB68.out 1 _ rfl).c
              have u2 := (HB68.out 2 _ rfl).c
              have u3 := (HB68.out 3 _ rfl).c
              have u4 := (HB68.out 4 _ rfl).c
              have u5 := (HB68.out 5 _ rfl).c
              have v0 := (HE8.out 0 _ rfl).c
              have v1 := (HE8.out 1 _ rfl).c
              have v2 := (HE8.out 2 _ rfl).c
              have v3 := (HE8.out 3 _ rfl).c
              have v4 := (HE8.out 4 _ rfl).c
              have v5 := (HE8.out 5 _ rfl).c
              obtain ⟨WA, hWA⟩ : ∃ WA, W8.alloc (.cells #[.int .i64 ka, .string (tx ca), .int .i64 la, .int .i64 ha, .slice a4a n4a c4a, .slice a5a n5a c5a, .int .i64 kb, .string (tx cb), .int .i64 lb, .int .i64 hb, .slice a4b n4b c4b, .slice a5b n5b c5b] 25) = WA := ⟨_, rfl⟩
              have hbA : Below W8.heap.size W8 WA := hWA ▸ ba _ _
              have HKA : Hid (Bx WA W8.heap.size [.int .i64 ka, .string (tx ca), .int .i64 la, .int .i64 ha, .slice a4a n4a c4a, .slice a5a n5a c5a, .int .i64 kb, .string (tx cb), .int .i64 lb, .int .i64 hb, .slice a4b n4b c4b, .slice a5b n5b c5b]) := hWA ▸ Bx.new W8 [.int .i64 ka, .string (tx ca), .int .i64 la, .int .i64 ha, .slice a4a n4a c4a, .slice a5a n5a c5a, .int .i64 kb, .string (tx cb), .int .i64 lb, .int .i64 hb, .slice a4b n4b c4b, .slice a5b n5b c5b] 25 rfl
              have HB6A : Hid (Bx WA b5 [.int .i64 ka, .string (tx ca), .int .i64 la, .int .i64 ha, .slice a4a n4a c4a, .slice a5a n5a c5a]) := HB68.out.at hbA
              have z0 := (HB6A.out 0 _ rfl).c
              have z1 := (HB6A.out 1 _ rfl).c
              have z2 := (HB6A.out 2 _ rfl).c
              have z3 := (HB6A.out 3 _ rfl).c
              have z4 := (HB6A.out 4 _ rfl).c
              have z5 := (HB6A.out 5 _ rfl).c
              have y0 := (HB6A.out 0 _ rfl).f
              have y1 := (HB6A.out 1 _ rfl).f
              have y2 := (HB6A.out 2 _ rfl).f
              have y3 := (HB6A.out 3 _ rfl).f
              have y4 := (HB6A.out 4 _ rfl).f
              have y5 := (HB6A.out 5 _ rfl).f
              obtain ⟨W9, hW9⟩ : ∃ W9, set6 WA b5 (.int .i64 5) (.string ⟨#[]⟩) (.int .i64 0) (.int .i64 0) (.slice none 0 0) (.slice (some ⟨W8.heap.size, 0, none⟩) 2 2) = W9 := ⟨_, rfl⟩
              have hk9 : KG (fun g => w.heap.size < g ∧ g ≠ b5) WA W9 := hW9 ▸ KG.six (fun h => h.2 rfl) _ _ _ _ _ _
              have hG9 : w.heap.size < W8.heap.size ∧ W8.heap.size ≠ b5 := ⟨by omega, by omega⟩
              have hk79 : KG (fun g => w.heap.size < g ∧ g ≠ b5) w7 W9 := (KG.bl hb8).trans ((KG.bl hbA).trans hk9)
              have HP9 : Hid (SuR p (fun g => w.heap.size < g ∧ g ≠ b5) W9 (n + 1) (nxS r6) [.int .i64 5, .string (tx []), .int .i64 0, .int .i64 0, .slice none 0 0, .slice (some ⟨W8.heap.size, 0, none⟩) 2 2] r) :=
                su_next HP5.out H2.out HN.out HR6.out HKD.out (fun b q e => QN.kp hk79 (fun g h _ => h) b (QN.kp (KG.refl _ _) (fun g h _ => by have h' : W6.heap.size ≤ g := h; exact ⟨by omega, by omega⟩) b (HQ7.out b q e))) (HK7.out.trans hk79) hG9 (Nat.lt_of_lt_of_le (HKA.out 0 _ rfl).lt hk9.1) (fun j u hu => (hk9.cell (g := W8.heap.size) (k := j) hG9 (HKA.out 0 _ rfl).lt).trans (HKA.out j u hu).c)
              have HS9 : Hid (SS W9 R P0 (nxS r6)) := hW9 ▸ ((HS7.out.at hb8).at hbA).six hbR hbP _ _ _ _ _ _
              have HG9 : Hid (w.grownBy W9 (some R)) := hW9 ▸ set6_gb (gb_trans (gb_trans HG7.out (gb_below hb8)) (gb_below hbA)) (Nat.le_of_lt hbw) _ _ _ _ _ _
              have HBw9 : Hid (Bx W9 w.heap.size z6) := hW9 ▸ ((HBw7.out.at hb8).at hbA).sixo (by omega) _ _ _ _ _ _
              have HB69 : Hid (Bx W9 b5 [.int .i64 5, .string (tx []), .int .i64 0, .int .i64 0, .slice none 0 0, .slice (some ⟨W8.heap.size, 0, none⟩) 2 2]) := hW9 ▸ set6_bx HB6A.out _ _ _ _ _ _
              have hwn : IntKind.i64.wrap ((n : Int) + 1) = (n : Int) + 1 := by rw [IntKind.wrap_i64]; omega
              have hn1 : n + 1 ≤ 64 := HN.out
              unfold set6 at hW9
              clear hb8 hbA hk9 hk79 hG9
              go_wp2
              clear hW8 hWA hW9
              go_roundw
              case rel => exact ⟨n + 1, nxS r6, 5, [], 0, 0, none, 0, 0, some ⟨W8.heap.size, 0, none⟩, 2, 2, by go_num, hn1, HP9, HS9, HG9, HBw9, HB69⟩
              case measure => simp [intOf]; omega
end Go.Proofs.YtidfkencjdjkbaaDoor
