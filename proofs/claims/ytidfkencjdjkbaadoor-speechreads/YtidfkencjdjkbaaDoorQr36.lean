import Derived.Test.YtidfkencjdjkbaaDoorQr35
/-
  The document's own answer, chapter 15: times, whole.
-/
namespace Go.Proofs.YtidfkencjdjkbaaDoor
open Go.RowKit Sp

theorem times_b {k : Nat} {ps : List Pc} (hc : hd ps = sMinus ∨ fstD (hd ps) = true) (r4 : PR Qu) (h4 : onS (prdP k) (nxS (onS (tk sStar) (nxS (sgnP ps)))) = r4) :
    (∀ a q, r4 = .ok (a, q) → ∃ n q1, sgnP ps = .ok (n, q1) ∧ prdP (k + 1) ps = .ok (.node 6 [] n 0 [] 1 a .none, q)) ∧ (∀ e, r4 = .error e → prdP (k + 1) ps = .error e) := by
  subst h4
  rw [prdP, if_pos hc]
  cases h1 : sgnP ps with
  | error e => exact ⟨fun a q h => (by cases h), fun e' h => (by cases h; rfl)⟩
  | ok x =>
    obtain ⟨n, q1⟩ := x
    simp only [nxS, onS]
    cases h2 : tk sStar q1 with
    | error e => exact ⟨fun a q h => (by cases h), fun e' h => (by cases h; rfl)⟩
    | ok y =>
      obtain ⟨u, q2⟩ := y
      simp only
      cases h3 : prdP k q2 with
      | error e => exact ⟨fun a q h => (by cases h), fun e' h => (by cases h; rfl)⟩
      | ok z =>
        obtain ⟨a, q3⟩ := z
        exact ⟨fun a' q' h => (by cases h; exact ⟨n, q1, rfl, rfl⟩), fun e' h => (by cases h)⟩
theorem much_b (s : St) : ∃ e, badS 4 s = .error e ∧ onS (prdP 0) s = .error e := by
  cases s with
  | error e => exact ⟨e, rfl, rfl⟩
  | ok ps => exact ⟨(4, hat ps), rfl, rfl⟩
/-- what is left to pick: a state, what was read so far -/
def PkR (G : Nat → Prop) (w : World) (n : Nat) (st : St) (cs : List Value) (r : PR Qu) : Prop :=
  (∀ ps, st = .ok ps → ∃ a, QN G w a cs ∧ pikL (64 - n) a ps = r) ∧ (∀ e, st = .error e → .error e = r)
theorem pik_no {k : Nat} {a : Qu} {ps : List Pc} (h : ¬ hd ps = sLeft) : pikL k a ps = .ok (a, ps) := by cases k <;> rw [pikL, if_neg h]
theorem pik_much {a : Qu} {ps : List Pc} (h : hd ps = sLeft) : pikL 0 a ps = .error (4, hat ps) := by rw [pikL, if_pos h]
theorem pik_more {k : Nat} {a : Qu} {ps : List Pc} (h : hd ps = sLeft) (s7 : St) (h7 : nxS (onS (tk sRight) (nxS (numP ps.tail))) = s7) :
    (∀ q, s7 = .ok q → ∃ n q1, numP ps.tail = .ok (n, q1) ∧ pikL (k + 1) a ps = pikL k (.node 9 [] n 0 [] 1 a .none) q) ∧ (∀ e, s7 = .error e → pikL (k + 1) a ps = .error e) := by
  subst h7
  rw [pikL, if_pos h]
  cases h1 : numP ps.tail with
  | error e => exact ⟨fun q h => (by cases h), fun e' h => (by cases h; rfl)⟩
  | ok x =>
    obtain ⟨n, q1⟩ := x
    simp only [nxS, onS]
    cases h2 : tk sRight q1 with
    | error e => exact ⟨fun q h => (by cases h), fun e' h => (by cases h; rfl)⟩
    | ok y =>
      obtain ⟨u, q2⟩ := y
      exact ⟨fun q' h => (by cases h; exact ⟨n, q1, rfl, rfl⟩), fun e' h => (by cases h)⟩
theorem Bx.sixo {w : World} {b b' : Nat} {cs : List Value} (h : Bx w b cs) (hn : b' ≠ b) (a c d e f g : Value) : Bx (set6 w b' a c d e f g) b cs := by
  unfold set6
  exact (((((h.oth hn _).oth hn _).oth hn _).oth hn _).oth hn _).oth hn _
theorem PkR.kp {G : Nat → Prop} {w w' : World} {n : Nat} {st : St} {cs : List Value} {r : PR Qu} (h : PkR G w n st cs r) (hk : KG G w w') : PkR G w' n st cs r :=
  ⟨fun ps e => by obtain ⟨a, h1, h2⟩ := h.1 ps e; exact ⟨a, QN.kp hk (fun g h _ => h) a h1, h2⟩, h.2⟩
theorem pk_start {G : Nat → Prop} {w : World} {r1 r : PR Qu} {cs : List Value} (h : (∀ a q, r1 = .ok (a, q) → pikL 64 a q = r) ∧ (∀ e, r1 = .error e → .error e = r)) (hq : ∀ a q, r1 = .ok (a, q) → QN G w a cs) : PkR G w 0 (nxS r1) cs r := by
  cases r1 with
  | error e => exact ⟨fun ps h' => (by cases h'), fun e' h' => (by cases h'; exact h.2 e rfl)⟩
  | ok x => obtain ⟨a, q⟩ := x; exact ⟨fun ps h' => (by cases h'; exact ⟨a, hq a q rfl, h.1 a q rfl⟩), fun e' h' => (by cases h')⟩
theorem pk_end {G : Nat → Prop} {w w' : World} {R P0 lo n : Nat} {st : St} {r : PR Qu} {k : Int} {c : By} {l h : Int} {a4 : Option Addr} {n4 c4 : Nat} {a5 : Option Addr} {n5 c5 : Nat} (hp : PkR G w' n st [.int .i64 k, .string (tx c), .int .i64 l, .int .i64 h, .slice a4 n4 c4, .slice a5 n5 c5] r) (hG : ∀ g, G g → lo ≤ g) (hs : SS w' R P0 st) (hg : w.grownBy w' (some R)) (hb : nxtB sLeft st = false) :
    SP w R P0 (VN lo) GN r (.returned (.agg #[.int .i64 k, .string (tx c), .int .i64 l, .int .i64 h, .slice a4 n4 c4, .slice a5 n5 c5])) w' := by
  cases st with
  | error e =>
    obtain rfl := hp.2 e rfl
    exact ⟨_, rfl, ⟨_, _, _, _, _, _, _, _, _, _, rfl⟩, hs, hg⟩
  | ok ps =>
    obtain ⟨a, h1, h2⟩ := hp.1 ps rfl
    have hn : ¬ hd ps = sLeft := by simpa [nxtB] using hb
    rw [pik_no hn] at h2
    subst h2
    exact ⟨_, rfl, ⟨_, rfl, QN.kp (KG.refl _ _) (fun g h _ => hG g h) a h1⟩, hs, hg⟩
theorem pk_much {G : Nat → Prop} {w w' : World} {n : Nat} {ps : List Pc} {cs cs' : List Value} {r : PR Qu} (hp : PkR G w n (.ok ps) cs r) (hl : hd ps = sLeft) (hn : n = 64) : PkR G w' n (.error (4, hat ps)) cs' r := by
  obtain ⟨a, h1, h2⟩ := hp.1 ps rfl
  subst hn
  rw [show 64 - 64 = 0 from rfl, pik_much hl] at h2
  exact ⟨fun ps h => (by cases h), fun e h => (by cases h; exact h2)⟩
theorem pk_next {G : Nat → Prop} {w w' : World} {n g : Nat} {nv : Int} {ps : List Pc} {cs : List Value} {r : PR Qu} {r6 : PR Int} {s7 : St} (hp : PkR G w n (.ok ps) cs r) (hl : hd ps = sLeft) (hn : n < 64) (h6 : numP ps.tail = r6) (h7 : nxS (onS (tk sRight) (nxS r6)) = s7)
    (hv : ∀ a q, r6 = .ok (a, q) → nv = a) (hk : KG G w w') (hg : G g) (hgl : g < w'.heap.size) (hc : ∀ (j : Nat) u, cs[j]? = some u → w'.cell? ⟨g, j, none⟩ = some u) :
    PkR G w' (n + 1) s7 [.int .i64 9, .string ⟨#[]⟩, .int .i64 nv, .int .i64 0, .slice none 0 0, .slice (some ⟨g, 0, none⟩) 1 1] r := by
  obtain ⟨a, h1, h2⟩ := hp.1 ps rfl
  have e : 64 - n = (64 - (n + 1)) + 1 := by omega
  rw [e] at h2
  have hh := pik_more (k := 64 - (n + 1)) (a := a) hl s7 (by rw [h6]; exact h7)
  rw [h2] at hh
  refine ⟨fun q hq => ?_, fun e he => (hh.2 e he).symm⟩
  obtain ⟨m, q1, e1, e2⟩ := hh.1 q hq
  obtain rfl : nv = m := hv m q1 (by rw [← h6]; exact e1)
  exact ⟨.node 9 [] nv 0 [] 1 a .none, ⟨_, _, rfl, .inl ⟨rfl, rfl⟩, .inr (.inl ⟨rfl, g, 1, cs, rfl, Nat.le_refl _, hg, hgl, QN.kp hk (fun g h _ => h) a h1, hc⟩)⟩, e2.symm⟩
set_option maxHeartbeats 3000000 in
set_option maxRecDepth 100000 in
theorem times_of {k : Nat} {lv : Int} (hlv : lv = 64 - (k : Int)) (hk : k ≤ 63) (ht : QA 49 lv (thgP (qusP (prdP k) 64))) (hp : 1 ≤ k → QS 34 (lv + 1) (prdP k)) : QS 34 lv (prdP (k + 1)) := by
  intro w R P0 st r h hr
  cases st with
  | error e =>
    obtain rfl : .error e = r := hr
    exact times_dead h lv
  | ok ps =>
    have hRl := h.lt
    have hPl := h.pl
    have HRR : Hid (prdP (k + 1) ps = r) := hr
    have HLV : Hid (lv = 64 - (k : Int)) := hlv
    have hlv1 : 1 ≤ lv := by omega
    have hlv2 : lv ≤ 64 := by omega
    clear hlv
    obtain ⟨W0, hW0⟩ : ∃ W0, w.alloc (.cells #[.int .i64 0, .string ⟨#[]⟩, .int .i64 0, .int .i64 0, .slice none 0 0, .slice none 0 0] 25) = W0 := ⟨_, rfl⟩
    have hb0 : Below w.heap.size w W0 := hW0 ▸ ba _ _
    have HB0 : Hid (Bx W0 w.heap.size z6) := hW0 ▸ Bx.new w z6 25 rfl
    have HS0 : Hid (SS W0 R P0 (.ok ps)) := h.at hb0
    have HG0 : Hid (w.grownBy W0 (some R)) := gb_below hb0
    have hz0 : w.heap.size < W0.heap.size := (HB0.out 0 _ rfl).lt
    obtain ⟨cc, i, n, q0, q1, q2, q3, hin, hnc, hn6, p0, p1, hPR, _, _, hpk, hfz⟩ := HS0.out.alive
    have hini : (i : Int) < (n : Int) := by omega
    obtain ⟨x, hx⟩ : ∃ x, hd ps = x := ⟨_, rfl⟩
    rw [hx] at p0
    have HX : Hid (hd ps = x) := hx
    have hxl : x.length ≤ 65536 := by rw [← hx]; exact pok_len hpk
    have hsz : (tx x).size = x.length := by show x.toArray.size = _; simp
    clear h hr hb0 hx hfz hpk
    go_enter Tryd.func34, Tryd.ntmps34
    go_wp2_with fail
    clear hW0
    go_quiet (fail)
    obtain ⟨w1, hw1⟩ : ∃ w1, W0.drewN nq = w1 := ⟨_, rfl⟩
    have hbd : Below W0.heap.size W0 w1 := hw1 ▸ below_drewN (Below.refl _ _) _
    have HB1 : Hid (Bx w1 w.heap.size z6) := HB0.out.at hbd
    have HS1 : Hid (SS w1 R P0 (.ok ps)) := HS0.out.at hbd
    have HG1 : Hid (w.grownBy w1 (some R)) := gb_trans HG0.out (gb_below hbd)
    have hz1 : w.heap.size < w1.heap.size := Nat.lt_of_lt_of_le hz0 hbd.size
    rw [hw1]
    clear hw1 hbd q0 q1 q2 q3 p0 p1
    have hXR : w.heap.size ≠ R := by omega
    have hXP : w.heap.size ≠ P0 := by omega
    by_cases hc : hd ps = sMinus ∨ fstD (hd ps) = true
    · by_cases hm : x = sMinus
      · subst hm
        obtain ⟨r1, hr1⟩ : ∃ r1, sgnP ps = r1 := ⟨_, rfl⟩
        obtain ⟨s2, hs2⟩ : ∃ s2, nxS (onS (tk sStar) (nxS r1)) = s2 := ⟨_, rfl⟩
        obtain ⟨r4, hr4⟩ : ∃ r4, onS (prdP k) s2 = r4 := ⟨_, rfl⟩
        have HTB : Hid ((∀ a q, r4 = .ok (a, q) → ∃ n q1, r1 = .ok (n, q1) ∧ .ok (.node 6 [] n 0 [] 1 a .none, q) = r) ∧ (∀ e, r4 = .error e → .error e = r)) := by
          have hh := times_b (k := k) hc r4 (by rw [hr1, hs2]; exact hr4)
          rw [hr1, HRR.out] at hh
          exact ⟨fun a q e => by obtain ⟨n, q1, e1, e2⟩ := hh.1 a q e; exact ⟨n, q1, e1, e2.symm⟩, fun e h => (hh.2 e h).symm⟩
        have HS2e : Hid (nxS (onS (tk sStar) (nxS r1)) = s2) := hs2
        have HR4 : Hid (onS (prdP k) s2 = r4) := hr4
        have k1 := rsgn52 HS1.out r1 hr1
        have HPk : Hid (1 ≤ k → QS 34 (lv + 1) (prdP k)) := hp
        have qe := neqs sMinus sMinus false (by decide)
        clear hc hr1 hs2 hr4
        go_wp2_with fail
        refine k1.mono ?_
        intro e w2 hsp
        obtain ⟨nv, rfl, hnv, hs, hg⟩ := hsp.val
        have HNV : Hid (∀ a q, r1 = .ok (a, q) → nv = a) := hnv
        have HB2 : Hid (Bx w2 w.heap.size z6) := HB1.out.gb hg hXR
        have HG2 : Hid (w.grownBy w2 (some R)) := gb_trans HG1.out hg
        have k2 := want_any hs sStar (by decide) s2 HS2e.out
        clear k1 hsp hnv hs hg
        go_wp2_with fail
        refine k2.mono ?_
        rintro e w3 ⟨rfl, hs, hg⟩
        have HS3 : Hid (SS w3 R P0 s2) := hs
        have HB3 : Hid (Bx w3 w.heap.size z6) := HB2.out.gb hg hXR
        have HG3 : Hid (w.grownBy w3 (some R)) := gb_trans HG2.out hg
        have hwl : IntKind.i64.wrap (lv + 1) = lv + 1 := by rw [IntKind.wrap_i64]; omega
        have HKK : Hid (k = 0 → (64 : Int) < lv + 1) := fun h => by have := HLV.out; omega
        have HKN : Hid (¬ k = 0 → ¬ (64 : Int) < lv + 1) := fun h => by have := HLV.out; omega
        clear k2 hs hg
        have hz3 : w.heap.size < w3.heap.size := (HB3.out 0 _ rfl).lt
        by_cases k0 : k = 0
        · have c1 : (64 : Int) < lv + 1 := HKK.out k0
          have kb := bad_any HS3.out 4 (by decide)
          obtain ⟨ee, e1, e2⟩ := much_b s2
          rw [e1] at kb
          have HE4 : Hid (.error ee = r4) := by rw [Hid, ← HR4.out, k0]; exact e2.symm
          clear e1 e2 k0
          go_wp2_with fail
          refine kb.mono ?_
          rintro e w4 ⟨rfl, hs, hg⟩
          have HB4 : Hid (Bx w4 w.heap.size z6) := HB3.out.gb hg hXR
          have HG4 : Hid (w.grownBy w4 (some R)) := gb_trans HG3.out hg
          have hz4 : w.heap.size < w4.heap.size := (HB4.out 0 _ rfl).lt
          have kt := times_dead hs (lv + 1)
          rw [HE4.out] at kt
          clear kb hs hg
          go_wp2_with fail
          refine kt.mono ?_
          intro e w5 hsp
          obtain ⟨ka, ca, la, ha, a4a, n4a, c4a, a5a, n5a, c5a, rfl, hqa, hs, hg⟩ := hsp.ask
          have HQ5 : Hid (∀ a q, r4 = .ok (a, q) → QN (fun g => w4.heap.size ≤ g) w5 a [.int .i64 ka, .string (tx ca), .int .i64 la, .int .i64 ha, .slice a4a n4a c4a, .slice a5a n5a c5a]) := hqa
          have HB5 : Hid (Bx w5 w.heap.size z6) := HB4.out.gb hg hXR
          have HG5 : Hid (w.grownBy w5 (some R)) := gb_trans HG4.out hg
          have HS5 : Hid (SS w5 R P0 (nxS r4)) := hs
          have hz5 : w.heap.size < w5.heap.size := (HB5.out 0 _ rfl).lt
          clear kt hsp hqa hs hg
          obtain ⟨W6, hW6⟩ : ∃ W6, w5.alloc (.cells #[.int .i64 ka, .string (tx ca), .int .i64 la, .int .i64 ha, .slice a4a n4a c4a, .slice a5a n5a c5a] 25) = W6 := ⟨_, rfl⟩
          have hb6 : Below w5.heap.size w5 W6 := hW6 ▸ ba _ _
          have HK6 : Hid (Bx W6 w5.heap.size [.int .i64 ka, .string (tx ca), .int .i64 la, .int .i64 ha, .slice a4a n4a c4a, .slice a5a n5a c5a]) := hW6 ▸ Bx.new w5 [.int .i64 ka, .string (tx ca), .int .i64 la, .int .i64 ha, .slice a4a n4a c4a, .slice a5a n5a c5a] 25 rfl
          have HB6 : Hid (Bx W6 w.heap.size z6) := HB5.out.at hb6
          have HS6 : Hid (SS W6 R P0 (nxS r4)) := HS5.out.at hb6
          have HG6 : Hid (w.grownBy W6 (some R)) := gb_trans HG5.out (gb_below hb6)
          have HQ6 : Hid (∀ a q, r4 = .ok (a, q) → QN (fun g => w4.heap.size ≤ g) W6 a [.int .i64 ka, .string (tx ca), .int .i64 la, .int .i64 ha, .slice a4a n4a c4a, .slice a5a n5a c5a]) := fun a q e => QN.kp (KG.bl hb6) (fun g h _ => h) a (HQ5.out a q e)
          have hz6 := hb6.size
          have hk6 : w5.heap.size < W6.heap.size := (HK6.out 0 _ rfl).lt
          have z0 := (HB6.out 0 _ rfl).c
          have z1 := (HB6.out 1 _ rfl).c
          have z2 := (HB6.out 2 _ rfl).c
          have z3 := (HB6.out 3 _ rfl).c
          have z4 := (HB6.out 4 _ rfl).c
          have z5 := (HB6.out 5 _ rfl).c
          have y0 := (HB6.out 0 _ rfl).f
          have y1 := (HB6.out 1 _ rfl).f
          have y2 := (HB6.out 2 _ rfl).f
          have y3 := (HB6.out 3 _ rfl).f
          have y4 := (HB6.out 4 _ rfl).f
          have y5 := (HB6.out 5 _ rfl).f
          obtain ⟨W7, hW7⟩ : ∃ W7, set6 W6 w.heap.size (.int .i64 6) (.string ⟨#[]⟩) (.int .i64 nv) (.int .i64 0) (.slice none 0 0) (.slice (some ⟨w5.heap.size, 0, none⟩) 1 1) = W7 := ⟨_, rfl⟩
          have HB7 : Hid (Bx W7 w.heap.size [.int .i64 6, .string ⟨#[]⟩, .int .i64 nv, .int .i64 0, .slice none 0 0, .slice (some ⟨w5.heap.size, 0, none⟩) 1 1]) := hW7 ▸ set6_bx HB6.out _ _ _ _ _ _
          have HS7 : Hid (SS W7 R P0 (nxS r4)) := hW7 ▸ HS6.out.six hXR hXP _ _ _ _ _ _
          have HG7 : Hid (w.grownBy W7 (some R)) := hW7 ▸ set6_gb HG6.out (Nat.le_refl _) _ _ _ _ _ _
          have hkg : KG (fun g => w.heap.size < g) W6 W7 := hW7 ▸ KG.six (fun h => Nat.lt_irrefl _ h) _ _ _ _ _ _
          have HQ7 : Hid (∀ a q, r4 = .ok (a, q) → QN (fun g => w.heap.size ≤ g) W7 a [.int .i64 ka, .string (tx ca), .int .i64 la, .int .i64 ha, .slice a4a n4a c4a, .slice a5a n5a c5a]) := fun a q e => QN.kp hkg (fun g h _ => Nat.le_of_lt h) a (QN.kp (KG.refl _ _) (fun g h _ => by have h' : w4.heap.size ≤ g := h; omega) a (HQ6.out a q e))
          have HK7 : Hid (∀ (j : Nat) u, ([.int .i64 ka, .string (tx ca), .int .i64 la, .int .i64 ha, .slice a4a n4a c4a, .slice a5a n5a c5a] : List Value)[j]? = some u → W7.cell? ⟨w5.heap.size, j, none⟩ = some u) := fun j u hu => (hkg.cell (g := w5.heap.size) (k := j) hz5 hk6).trans (HK6.out j u hu).c
          have hz7 : w5.heap.size < W7.heap.size := Nat.lt_of_lt_of_le hk6 hkg.1
          unfold set6 at hW7
          clear hb6 hkg
          go_wp2
          clear hW6 hW7
          have x0 := (HB7.out 0 _ rfl).c
          have x1 := (HB7.out 1 _ rfl).c
          have x2 := (HB7.out 2 _ rfl).c
          have x3 := (HB7.out 3 _ rfl).c
          have x4 := (HB7.out 4 _ rfl).c
          have x5 := (HB7.out 5 _ rfl).c
          refine bodyPost_ret (v := .agg #[.int .i64 6, .string ⟨#[]⟩, .int .i64 nv, .int .i64 0, .slice none 0 0, .slice (some ⟨w5.heap.size, 0, none⟩) 1 1]) (by simp [results, Tryd.results34, go_sem, x0, x1, x2, x3, x4, x5]) rfl ?_
          cases r4 with
          | error e =>
            obtain rfl : .error e = r := HTB.out.2 e rfl
            exact ⟨_, rfl, ⟨6, [], nv, 0, none, 0, 0, _, 1, 1, rfl⟩, HS7.out, HG7.out⟩
          | ok y =>
            obtain ⟨a, qq⟩ := y
            obtain ⟨n1, q1, e1, rfl⟩ := HTB.out.1 a qq rfl
            obtain rfl : nv = n1 := HNV.out n1 q1 e1
            exact ⟨_, rfl, ⟨_, rfl, _, _, rfl, .inl ⟨rfl, rfl⟩, .inr (.inl ⟨rfl, w5.heap.size, 1, _, rfl, Nat.le_refl _, Nat.le_of_lt hz5, hz7, HQ7.out a qq rfl, HK7.out⟩)⟩, HS7.out, HG7.out⟩
        · have c1 : ¬ (64 : Int) < lv + 1 := HKN.out k0
          have c2 : decide ((64 : Int) < lv + 1) = false := by simpa using c1
          have kt := HPk.out (by omega) w3 R P0 s2 r4 HS3.out HR4.out
          have HB4 : Hid (Bx w3 w.heap.size z6) := HB3
          have HG4 : Hid (w.grownBy w3 (some R)) := HG3
          have hz4 : w.heap.size < w3.heap.size := hz3
          clear k0
          go_wp2_with fail
          refine kt.mono ?_
          intro e w5 hsp
          obtain ⟨ka, ca, la, ha, a4a, n4a, c4a, a5a, n5a, c5a, rfl, hqa, hs, hg⟩ := hsp.ask
          have HQ5 : Hid (∀ a q, r4 = .ok (a, q) → QN (fun g => w3.heap.size ≤ g) w5 a [.int .i64 ka, .string (tx ca), .int .i64 la, .int .i64 ha, .slice a4a n4a c4a, .slice a5a n5a c5a]) := hqa
          have HB5 : Hid (Bx w5 w.heap.size z6) := HB4.out.gb hg hXR
          have HG5 : Hid (w.grownBy w5 (some R)) := gb_trans HG4.out hg
          have HS5 : Hid (SS w5 R P0 (nxS r4)) := hs
          have hz5 : w.heap.size < w5.heap.size := (HB5.out 0 _ rfl).lt
          clear kt hsp hqa hs hg
          obtain ⟨W6, hW6⟩ : ∃ W6, w5.alloc (.cells #[.int .i64 ka, .string (tx ca), .int .i64 la, .int .i64 ha, .slice a4a n4a c4a, .slice a5a n5a c5a] 25) = W6 := ⟨_, rfl⟩
          have hb6 : Below w5.heap.size w5 W6 := hW6 ▸ ba _ _
          have HK6 : Hid (Bx W6 w5.heap.size [.int .i64 ka, .string (tx ca), .int .i64 la, .int .i64 ha, .slice a4a n4a c4a, .slice a5a n5a c5a]) := hW6 ▸ Bx.new w5 [.int .i64 ka, .string (tx ca), .int .i64 la, .int .i64 ha, .slice a4a n4a c4a, .slice a5a n5a c5a] 25 rfl
          have HB6 : Hid (Bx W6 w.heap.size z6) := HB5.out.at hb6
          have HS6 : Hid (SS W6 R P0 (nxS r4)) := HS5.out.at hb6
          have HG6 : Hid (w.grownBy W6 (some R)) := gb_trans HG5.out (gb_below hb6)
          have HQ6 : Hid (∀ a q, r4 = .ok (a, q) → QN (fun g => w3.heap.size ≤ g) W6 a [.int .i64 ka, .string (tx ca), .int .i64 la, .int .i64 ha, .slice a4a n4a c4a, .slice a5a n5a c5a]) := fun a q e => QN.kp (KG.bl hb6) (fun g h _ => h) a (HQ5.out a q e)
          have hz6 := hb6.size
          have hk6 : w5.heap.size < W6.heap.size := (HK6.out 0 _ rfl).lt
          have z0 := (HB6.out 0 _ rfl).c
          have z1 := (HB6.out 1 _ rfl).c
          have z2 := (HB6.out 2 _ rfl).c
          have z3 := (HB6.out 3 _ rfl).c
          have z4 := (HB6.out 4 _ rfl).c
          have z5 := (HB6.out 5 _ rfl).c
          have y0 := (HB6.out 0 _ rfl).f
          have y1 := (HB6.out 1 _ rfl).f
          have y2 := (HB6.out 2 _ rfl).f
          have y3 := (HB6.out 3 _ rfl).f
          have y4 := (HB6.out 4 _ rfl).f
          have y5 := (HB6.out 5 _ rfl).f
          obtain ⟨W7, hW7⟩ : ∃ W7, set6 W6 w.heap.size (.int .i64 6) (.string ⟨#[]⟩) (.int .i64 nv) (.int .i64 0) (.slice none 0 0) (.slice (some ⟨w5.heap.size, 0, none⟩) 1 1) = W7 := ⟨_, rfl⟩
          have HB7 : Hid (Bx W7 w.heap.size [.int .i64 6, .string ⟨#[]⟩, .int .i64 nv, .int .i64 0, .slice none 0 0, .slice (some ⟨w5.heap.size, 0, none⟩) 1 1]) := hW7 ▸ set6_bx HB6.out _ _ _ _ _ _
          have HS7 : Hid (SS W7 R P0 (nxS r4)) := hW7 ▸ HS6.out.six hXR hXP _ _ _ _ _ _
          have HG7 : Hid (w.grownBy W7 (some R)) := hW7 ▸ set6_gb HG6.out (Nat.le_refl _) _ _ _ _ _ _
          have hkg : KG (fun g => w.heap.size < g) W6 W7 := hW7 ▸ KG.six (fun h => Nat.lt_irrefl _ h) _ _ _ _ _ _
          have HQ7 : Hid (∀ a q, r4 = .ok (a, q) → QN (fun g => w.heap.size ≤ g) W7 a [.int .i64 ka, .string (tx ca), .int .i64 la, .int .i64 ha, .slice a4a n4a c4a, .slice a5a n5a c5a]) := fun a q e => QN.kp hkg (fun g h _ => Nat.le_of_lt h) a (QN.kp (KG.refl _ _) (fun g h _ => by have h' : w3.heap.size ≤ g := h; omega) a (HQ6.out a q e))
          have HK7 : Hid (∀ (j : Nat) u, ([.int .i64 ka, .string (tx ca), .int .i64 la, .int .i64 ha, .slice a4a n4a c4a, .slice a5a n5a c5a] : List Value)[j]? = some u → W7.cell? ⟨w5.heap.size, j, none⟩ = some u) := fun j u hu => (hkg.cell (g := w5.heap.size) (k := j) hz5 hk6).trans (HK6.out j u hu).c
          have hz7 : w5.heap.size < W7.heap.size := Nat.lt_of_lt_of_le hk6 hkg.1
          unfold set6 at hW7
          clear hb6 hkg
          go_wp2
          clear hW6 hW7
          have x0 := (HB7.out 0 _ rfl).c
          have x1 := (HB7.out 1 _ rfl).c
          have x2 := (HB7.out 2 _ rfl).c
          have x3 := (HB7.out 3 _ rfl).c
          have x4 := (HB7.out 4 _ rfl).c
          have x5 := (HB7.out 5 _ rfl).c
          refine bodyPost_ret (v := .agg #[.int .i64 6, .string ⟨#[]⟩, .int .i64 nv, .int .i64 0, .slice none 0 0, .slice (some ⟨w5.heap.size, 0, none⟩) 1 1]) (by simp [results, Tryd.results34, go_sem, x0, x1, x2, x3, x4, x5]) rfl ?_
          cases r4 with
          | error e =>
            obtain rfl : .error e = r := HTB.out.2 e rfl
            exact ⟨_, rfl, ⟨6, [], nv, 0, none, 0, 0, _, 1, 1, rfl⟩, HS7.out, HG7.out⟩
          | ok y =>
            obtain ⟨a, qq⟩ := y
            obtain ⟨n1, q1, e1, rfl⟩ := HTB.out.1 a qq rfl
            obtain rfl : nv = n1 := HNV.out n1 q1 e1
            exact ⟨_, rfl, ⟨_, rfl, _, _, rfl, .inl ⟨rfl, rfl⟩, .inr (.inl ⟨rfl, w5.heap.size, 1, _, rfl, Nat.le_refl _, Nat.le_of_lt hz5, hz7, HQ7.out a qq rfl, HK7.out⟩)⟩, HS7.out, HG7.out⟩
      · obtain ⟨cD, tD, rfl, hdD⟩ : ∃ c t, x = c :: t ∧ digB c = true := by
          have h1 : fstD x = true := by
            rcases hc with hc | hc
            · exact absurd (HX.out.symm.trans hc) hm
            · rw [← HX.out]; exact hc
          cases x with
          | nil => simp [fstD] at h1
          | cons c t => exact ⟨c, t, rfl, h1⟩
        obtain ⟨r1, hr1⟩ : ∃ r1, sgnP ps = r1 := ⟨_, rfl⟩
        obtain ⟨s2, hs2⟩ : ∃ s2, nxS (onS (tk sStar) (nxS r1)) = s2 := ⟨_, rfl⟩
        obtain ⟨r4, hr4⟩ : ∃ r4, onS (prdP k) s2 = r4 := ⟨_, rfl⟩
        have HTB : Hid ((∀ a q, r4 = .ok (a, q) → ∃ n q1, r1 = .ok (n, q1) ∧ .ok (.node 6 [] n 0 [] 1 a .none, q) = r) ∧ (∀ e, r4 = .error e → .error e = r)) := by
          have hh := times_b (k := k) hc r4 (by rw [hr1, hs2]; exact hr4)
          rw [hr1, HRR.out] at hh
          exact ⟨fun a q e => by obtain ⟨n, q1, e1, e2⟩ := hh.1 a q e; exact ⟨n, q1, e1, e2.symm⟩, fun e h => (hh.2 e h).symm⟩
        have HS2e : Hid (nxS (onS (tk sStar) (nxS r1)) = s2) := hs2
        have HR4 : Hid (onS (prdP k) s2 = r4) := hr4
        have k1 := rsgn52 HS1.out r1 hr1
        have HPk : Hid (1 ≤ k → QS 34 (lv + 1) (prdP k)) := hp
        have qe := neqs (cD :: tD) sMinus true (by rw [decide_eq_false hm]; rfl)
        have qe2 := eqs (cD :: tD) [] false (by simp)
        have qe3 : ((cD :: tD) == ([] : By)) = false := rfl
        have qe4 : ((cD :: tD) == sMinus) = false := by rw [by_beq]; exact decide_eq_false hm
        have e0 := str_at (x := cD :: tD) (k := 0) (c := cD) rfl
        have hlen1 : 0 < (tx (cD :: tD)).size := by rw [hsz]; simp
        have kd := rdig_any cD.toNat w1 true hdD
        clear hc hr1 hs2 hr4 hm hdD HX
        generalize (cD :: tD) = XX at *
        go_wp2_with fail
        refine kd.mono ?_
        rintro e w1 ⟨rfl, rfl⟩
        clear kd
        go_wp2_with fail
        refine k1.mono ?_
        intro e w2 hsp
        obtain ⟨nv, rfl, hnv, hs, hg⟩ := hsp.val
        have HNV : Hid (∀ a q, r1 = .ok (a, q) → nv = a) := hnv
        have HB2 : Hid (Bx w2 w.heap.size z6) := HB1.out.gb hg hXR
        have HG2 : Hid (w.grownBy w2 (some R)) := gb_trans HG1.out hg
        have k2 := want_any hs sStar (by decide) s2 HS2e.out
        clear k1 hsp hnv hs hg
        go_wp2_with fail
        refine k2.mono ?_
        rintro e w3 ⟨rfl, hs, hg⟩
        have HS3 : Hid (SS w3 R P0 s2) := hs
        have HB3 : Hid (Bx w3 w.heap.size z6) := HB2.out.gb hg hXR
        have HG3 : Hid (w.grownBy w3 (some R)) := gb_trans HG2.out hg
        have hwl : IntKind.i64.wrap (lv + 1) = lv + 1 := by rw [IntKind.wrap_i64]; omega
        have HKK : Hid (k = 0 → (64 : Int) < lv + 1) := fun h => by have := HLV.out; omega
        have HKN : Hid (¬ k = 0 → ¬ (64 : Int) < lv + 1) := fun h => by have := HLV.out; omega
        clear k2 hs hg
        have hz3 : w.heap.size < w3.heap.size := (HB3.out 0 _ rfl).lt
        by_cases k0 : k = 0
        · have c1 : (64 : Int) < lv + 1 := HKK.out k0
          have kb := bad_any HS3.out 4 (by decide)
          obtain ⟨ee, e1, e2⟩ := much_b s2
          rw [e1] at kb
          have HE4 : Hid (.error ee = r4) := by rw [Hid, ← HR4.out, k0]; exact e2.symm
          clear e1 e2 k0
          go_wp2_with fail
          refine kb.mono ?_
          rintro e w4 ⟨rfl, hs, hg⟩
          have HB4 : Hid (Bx w4 w.heap.size z6) := HB3.out.gb hg hXR
          have HG4 : Hid (w.grownBy w4 (some R)) := gb_trans HG3.out hg
          have hz4 : w.heap.size < w4.heap.size := (HB4.out 0 _ rfl).lt
          have kt := times_dead hs (lv + 1)
          rw [HE4.out] at kt
          clear kb hs hg
          go_wp2_with fail
          refine kt.mono ?_
          intro e w5 hsp
          obtain ⟨ka, ca, la, ha, a4a, n4a, c4a, a5a, n5a, c5a, rfl, hqa, hs, hg⟩ := hsp.ask
          have HQ5 : Hid (∀ a q, r4 = .ok (a, q) → QN (fun g => w4.heap.size ≤ g) w5 a [.int .i64 ka, .string (tx ca), .int .i64 la, .int .i64 ha, .slice a4a n4a c4a, .slice a5a n5a c5a]) := hqa
          have HB5 : Hid (Bx w5 w.heap.size z6) := HB4.out.gb hg hXR
          have HG5 : Hid (w.grownBy w5 (some R)) := gb_trans HG4.out hg
          have HS5 : Hid (SS w5 R P0 (nxS r4)) := hs
          have hz5 : w.heap.size < w5.heap.size := (HB5.out 0 _ rfl).lt
          clear kt hsp hqa hs hg
          obtain ⟨W6, hW6⟩ : ∃ W6, w5.alloc (.cells #[.int .i64 ka, .string (tx ca), .int .i64 la, .int .i64 ha, .slice a4a n4a c4a, .slice a5a n5a c5a] 25) = W6 := ⟨_, rfl⟩
          have hb6 : Below w5.heap.size w5 W6 := hW6 ▸ ba _ _
          have HK6 : Hid (Bx W6 w5.heap.size [.int .i64 ka, .string (tx ca), .int .i64 la, .int .i64 ha, .slice a4a n4a c4a, .slice a5a n5a c5a]) := hW6 ▸ Bx.new w5 [.int .i64 ka, .string (tx ca), .int .i64 la, .int .i64 ha, .slice a4a n4a c4a, .slice a5a n5a c5a] 25 rfl
          have HB6 : Hid (Bx W6 w.heap.size z6) := HB5.out.at hb6
          have HS6 : Hid (SS W6 R P0 (nxS r4)) := HS5.out.at hb6
          have HG6 : Hid (w.grownBy W6 (some R)) := gb_trans HG5.out (gb_below hb6)
          have HQ6 : Hid (∀ a q, r4 = .ok (a, q) → QN (fun g => w4.heap.size ≤ g) W6 a [.int .i64 ka, .string (tx ca), .int .i64 la, .int .i64 ha, .slice a4a n4a c4a, .slice a5a n5a c5a]) := fun a q e => QN.kp (KG.bl hb6) (fun g h _ => h) a (HQ5.out a q e)
          have hz6 := hb6.size
          have hk6 : w5.heap.size < W6.heap.size := (HK6.out 0 _ rfl).lt
          have z0 := (HB6.out 0 _ rfl).c
          have z1 := (HB6.out 1 _ rfl).c
          have z2 := (HB6.out 2 _ rfl).c
          have z3 := (HB6.out 3 _ rfl).c
          have z4 := (HB6.out 4 _ rfl).c
          have z5 := (HB6.out 5 _ rfl).c
          have y0 := (HB6.out 0 _ rfl).f
          have y1 := (HB6.out 1 _ rfl).f
          have y2 := (HB6.out 2 _ rfl).f
          have y3 := (HB6.out 3 _ rfl).f
          have y4 := (HB6.out 4 _ rfl).f
          have y5 := (HB6.out 5 _ rfl).f
          obtain ⟨W7, hW7⟩ : ∃ W7, set6 W6 w.heap.size (.int .i64 6) (.string ⟨#[]⟩) (.int .i64 nv) (.int .i64 0) (.slice none 0 0) (.slice (some ⟨w5.heap.size, 0, none⟩) 1 1) = W7 := ⟨_, rfl⟩
          have HB7 : Hid (Bx W7 w.heap.size [.int .i64 6, .string ⟨#[]⟩, .int .i64 nv, .int .i64 0, .slice none 0 0, .slice (some ⟨w5.heap.size, 0, none⟩) 1 1]) := hW7 ▸ set6_bx HB6.out _ _ _ _ _ _
          have HS7 : Hid (SS W7 R P0 (nxS r4)) := hW7 ▸ HS6.out.six hXR hXP _ _ _ _ _ _
          have HG7 : Hid (w.grownBy W7 (some R)) := hW7 ▸ set6_gb HG6.out (Nat.le_refl _) _ _ _ _ _ _
          have hkg : KG (fun g => w.heap.size < g) W6 W7 := hW7 ▸ KG.six (fun h => Nat.lt_irrefl _ h) _ _ _ _ _ _
          have HQ7 : Hid (∀ a q, r4 = .ok (a, q) → QN (fun g => w.heap.size ≤ g) W7 a [.int .i64 ka, .string (tx ca), .int .i64 la, .int .i64 ha, .slice a4a n4a c4a, .slice a5a n5a c5a]) := fun a q e => QN.kp hkg (fun g h _ => Nat.le_of_lt h) a (QN.kp (KG.refl _ _) (fun g h _ => by have h' : w4.heap.size ≤ g := h; omega) a (HQ6.out a q e))
          have HK7 : Hid (∀ (j : Nat) u, ([.int .i64 ka, .string (tx ca), .int .i64 la, .int .i64 ha, .slice a4a n4a c4a, .slice a5a n5a c5a] : List Value)[j]? = some u → W7.cell? ⟨w5.heap.size, j, none⟩ = some u) := fun j u hu => (hkg.cell (g := w5.heap.size) (k := j) hz5 hk6).trans (HK6.out j u hu).c
          have hz7 : w5.heap.size < W7.heap.size := Nat.lt_of_lt_of_le hk6 hkg.1
          unfold set6 at hW7
          clear hb6 hkg
          go_wp2
          clear hW6 hW7
          have x0 := (HB7.out 0 _ rfl).c
          have x1 := (HB7.out 1 _ rfl).c
          have x2 := (HB7.out 2 _ rfl).c
          have x3 := (HB7.out 3 _ rfl).c
          have x4 := (HB7.out 4 _ rfl).c
          have x5 := (HB7.out 5 _ rfl).c
          refine bodyPost_ret (v := .agg #[.int .i64 6, .string ⟨#[]⟩, .int .i64 nv, .int .i64 0, .slice none 0 0, .slice (some ⟨w5.heap.size, 0, none⟩) 1 1]) (by simp [results, Tryd.results34, go_sem, x0, x1, x2, x3, x4, x5]) rfl ?_
          cases r4 with
          | error e =>
            obtain rfl : .error e = r := HTB.out.2 e rfl
            exact ⟨_, rfl, ⟨6, [], nv, 0, none, 0, 0, _, 1, 1, rfl⟩, HS7.out, HG7.out⟩
          | ok y =>
            obtain ⟨a, qq⟩ := y
            obtain ⟨n1, q1, e1, rfl⟩ := HTB.out.1 a qq rfl
            obtain rfl : nv = n1 := HNV.out n1 q1 e1
            exact ⟨_, rfl, ⟨_, rfl, _, _, rfl, .inl ⟨rfl, rfl⟩, .inr (.inl ⟨rfl, w5.heap.size, 1, _, rfl, Nat.le_refl _, Nat.le_of_lt hz5, hz7, HQ7.out a qq rfl, HK7.out⟩)⟩, HS7.out, HG7.out⟩
        · have c1 : ¬ (64 : Int) < lv + 1 := HKN.out k0
          have c2 : decide ((64 : Int) < lv + 1) = false := by simpa using c1
          have kt := HPk.out (by omega) w3 R P0 s2 r4 HS3.out HR4.out
          have HB4 : Hid (Bx w3 w.heap.size z6) := HB3
          have HG4 : Hid (w.grownBy w3 (some R)) := HG3
          have hz4 : w.heap.size < w3.heap.size := hz3
          clear k0
          go_wp2_with fail
          refine kt.mono ?_
          intro e w5 hsp
          obtain ⟨ka, ca, la, ha, a4a, n4a, c4a, a5a, n5a, c5a, rfl, hqa, hs, hg⟩ := hsp.ask
          have HQ5 : Hid (∀ a q, r4 = .ok (a, q) → QN (fun g => w3.heap.size ≤ g) w5 a [.int .i64 ka, .string (tx ca), .int .i64 la, .int .i64 ha, .slice a4a n4a c4a, .slice a5a n5a c5a]) := hqa
          have HB5 : Hid (Bx w5 w.heap.size z6) := HB4.out.gb hg hXR
          have HG5 : Hid (w.grownBy w5 (some R)) := gb_trans HG4.out hg
          have HS5 : Hid (SS w5 R P0 (nxS r4)) := hs
          have hz5 : w.heap.size < w5.heap.size := (HB5.out 0 _ rfl).lt
          clear kt hsp hqa hs hg
          obtain ⟨W6, hW6⟩ : ∃ W6, w5.alloc (.cells #[.int .i64 ka, .string (tx ca), .int .i64 la, .int .i64 ha, .slice a4a n4a c4a, .slice a5a n5a c5a] 25) = W6 := ⟨_, rfl⟩
          have hb6 : Below w5.heap.size w5 W6 := hW6 ▸ ba _ _
          have HK6 : Hid (Bx W6 w5.heap.size [.int .i64 ka, .string (tx ca), .int .i64 la, .int .i64 ha, .slice a4a n4a c4a, .slice a5a n5a c5a]) := hW6 ▸ Bx.new w5 [.int .i64 ka, .string (tx ca), .int .i64 la, .int .i64 ha, .slice a4a n4a c4a, .slice a5a n5a c5a] 25 rfl
          have HB6 : Hid (Bx W6 w.heap.size z6) := HB5.out.at hb6
          have HS6 : Hid (SS W6 R P0 (nxS r4)) := HS5.out.at hb6
          have HG6 : Hid (w.grownBy W6 (some R)) := gb_trans HG5.out (gb_below hb6)
          have HQ6 : Hid (∀ a q, r4 = .ok (a, q) → QN (fun g => w3.heap.size ≤ g) W6 a [.int .i64 ka, .string (tx ca), .int .i64 la, .int .i64 ha, .slice a4a n4a c4a, .slice a5a n5a c5a]) := fun a q e => QN.kp (KG.bl hb6) (fun g h _ => h) a (HQ5.out a q e)
          have hz6 := hb6.size
          have hk6 : w5.heap.size < W6.heap.size := (HK6.out 0 _ rfl).lt
          have z0 := (HB6.out 0 _ rfl).c
          have z1 := (HB6.out 1 _ rfl).c
          have z2 := (HB6.out 2 _ rfl).c
          have z3 := (HB6.out 3 _ rfl).c
          have z4 := (HB6.out 4 _ rfl).c
          have z5 := (HB6.out 5 _ rfl).c
          have y0 := (HB6.out 0 _ rfl).f
          have y1 := (HB6.out 1 _ rfl).f
          have y2 := (HB6.out 2 _ rfl).f
          have y3 := (HB6.out 3 _ rfl).f
          have y4 := (HB6.out 4 _ rfl).f
          have y5 := (HB6.out 5 _ rfl).f
          obtain ⟨W7, hW7⟩ : ∃ W7, set6 W6 w.heap.size (.int .i64 6) (.string ⟨#[]⟩) (.int .i64 nv) (.int .i64 0) (.slice none 0 0) (.slice (some ⟨w5.heap.size, 0, none⟩) 1 1) = W7 := ⟨_, rfl⟩
          have HB7 : Hid (Bx W7 w.heap.size [.int .i64 6, .string ⟨#[]⟩, .int .i64 nv, .int .i64 0, .slice none 0 0, .slice (some ⟨w5.heap.size, 0, none⟩) 1 1]) := hW7 ▸ set6_bx HB6.out _ _ _ _ _ _
          have HS7 : Hid (SS W7 R P0 (nxS r4)) := hW7 ▸ HS6.out.six hXR hXP _ _ _ _ _ _
          have HG7 : Hid (w.grownBy W7 (some R)) := hW7 ▸ set6_gb HG6.out (Nat.le_refl _) _ _ _ _ _ _
          have hkg : KG (fun g => w.heap.size < g) W6 W7 := hW7 ▸ KG.six (fun h => Nat.lt_irrefl _ h) _ _ _ _ _ _
          have HQ7 : Hid (∀ a q, r4 = .ok (a, q) → QN (fun g => w.heap.size ≤ g) W7 a [.int .i64 ka, .string (tx ca), .int .i64 la, .int .i64 ha, .slice a4a n4a c4a, .slice a5a n5a c5a]) := fun a q e => QN.kp hkg (fun g h _ => Nat.le_of_lt h) a (QN.kp (KG.refl _ _) (fun g h _ => by have h' : w3.heap.size ≤ g := h; omega) a (HQ6.out a q e))
          have HK7 : Hid (∀ (j : Nat) u, ([.int .i64 ka, .string (tx ca), .int .i64 la, .int .i64 ha, .slice a4a n4a c4a, .slice a5a n5a c5a] : List Value)[j]? = some u → W7.cell? ⟨w5.heap.size, j, none⟩ = some u) := fun j u hu => (hkg.cell (g := w5.heap.size) (k := j) hz5 hk6).trans (HK6.out j u hu).c
          have hz7 : w5.heap.size < W7.heap.size := Nat.lt_of_lt_of_le hk6 hkg.1
          unfold set6 at hW7
          clear hb6 hkg
          go_wp2
          clear hW6 hW7
          have x0 := (HB7.out 0 _ rfl).c
          have x1 := (HB7.out 1 _ rfl).c
          have x2 := (HB7.out 2 _ rfl).c
          have x3 := (HB7.out 3 _ rfl).c
          have x4 := (HB7.out 4 _ rfl).c
          have x5 := (HB7.out 5 _ rfl).c
          refine bodyPost_ret (v := .agg #[.int .i64 6, .string ⟨#[]⟩, .int .i64 nv, .int .i64 0, .slice none 0 0, .slice (some ⟨w5.heap.size, 0, none⟩) 1 1]) (by simp [results, Tryd.results34, go_sem, x0, x1, x2, x3, x4, x5]) rfl ?_
          cases r4 with
          | error e =>
            obtain rfl : .error e = r := HTB.out.2 e rfl
            exact ⟨_, rfl, ⟨6, [], nv, 0, none, 0, 0, _, 1, 1, rfl⟩, HS7.out, HG7.out⟩
          | ok y =>
            obtain ⟨a, qq⟩ := y
            obtain ⟨n1, q1, e1, rfl⟩ := HTB.out.1 a qq rfl
            obtain rfl : nv = n1 := HNV.out n1 q1 e1
            exact ⟨_, rfl, ⟨_, rfl, _, _, rfl, .inl ⟨rfl, rfl⟩, .inr (.inl ⟨rfl, w5.heap.size, 1, _, rfl, Nat.le_refl _, Nat.le_of_lt hz5, hz7, HQ7.out a qq rfl, HK7.out⟩)⟩, HS7.out, HG7.out⟩
    · obtain ⟨r1, hr1⟩ : ∃ r1, thgP (qusP (prdP k) 64) ps = r1 := ⟨_, rfl⟩
      have HPA : Hid ((∀ a q, r1 = .ok (a, q) → pikL 64 a q = r) ∧ (∀ e, r1 = .error e → .error e = r)) := by
        have hh := HRR.out
        rw [prdP, if_neg hc, pikP, hr1] at hh
        exact ⟨fun a q e => by subst e; exact hh, fun e h => by subst h; exact hh⟩
      have k1 := ht w1 R P0 ps r1 HS1.out hr1
      rw [HX.out] at hc
      clear hr1 HRR HX HLV hp ht
      cases x with
      | nil =>
        have qe := neqs [] sMinus true (by decide)
        have qe2 := eqs [] [] true (by decide)
        have qe3 : (([] : By) == ([] : By)) = true := rfl
        have qe4 : (([] : By) == sMinus) = false := by decide
        clear hc
        go_wp2_with fail
        refine k1.mono ?_
        intro e w2 hsp
        obtain ⟨ka, ca, la, ha, a4a, n4a, c4a, a5a, n5a, c5a, rfl, hqa, hs, hg⟩ := hsp.ask
        have HB2 : Hid (Bx w2 w.heap.size z6) := HB1.out.gb hg hXR
        have HG2 : Hid (w.grownBy w2 (some R)) := gb_trans HG1.out hg
        have HS2 : Hid (SS w2 R P0 (nxS r1)) := hs
        have hz2 : w.heap.size < w2.heap.size := (HB2.out 0 _ rfl).lt
        obtain ⟨W3, hW3⟩ : ∃ W3, w2.alloc (.cells #[.int .i64 ka, .string (tx ca), .int .i64 la, .int .i64 ha, .slice a4a n4a c4a, .slice a5a n5a c5a] 25) = W3 := ⟨_, rfl⟩
        have hb3 : Below w2.heap.size w2 W3 := hW3 ▸ ba _ _
        obtain ⟨b6, hb6⟩ : ∃ b6, w2.heap.size = b6 := ⟨_, rfl⟩
        have HK3 : Hid (Bx W3 b6 [.int .i64 ka, .string (tx ca), .int .i64 la, .int .i64 ha, .slice a4a n4a c4a, .slice a5a n5a c5a]) := hW3 ▸ Bx.new w2 [.int .i64 ka, .string (tx ca), .int .i64 la, .int .i64 ha, .slice a4a n4a c4a, .slice a5a n5a c5a] 25 hb6.symm
        have HB3 : Hid (Bx W3 w.heap.size z6) := HB2.out.at hb3
        have HS3 : Hid (SS W3 R P0 (nxS r1)) := HS2.out.at hb3
        have HG3 : Hid (w.grownBy W3 (some R)) := gb_trans HG2.out (gb_below hb3)
        have HP3 : Hid (PkR (fun g => w.heap.size < g ∧ g ≠ b6) W3 0 (nxS r1) [.int .i64 ka, .string (tx ca), .int .i64 la, .int .i64 ha, .slice a4a n4a c4a, .slice a5a n5a c5a] r) := pk_start HPA.out fun a q e => QN.kp (KG.bl hb3) (fun g h hl => by have h' : w1.heap.size ≤ g := h; exact ⟨by omega, by omega⟩) a (hqa a q e)
        have hbw : w.heap.size < b6 := by omega
        have hbR : b6 ≠ R := by omega
        have hbP : b6 ≠ P0 := by omega
        obtain ⟨s3, hs3⟩ : ∃ s3, nxS r1 = s3 := ⟨_, rfl⟩
        rw [hs3] at HS3 HP3
        clear k1 hsp hqa hs hg hb3 hs3
        go_wp2
        clear hW3 hb6
        go_loopw [7] (fun nv wr => ∃ (n : Nat) (st : St) (ka : Int) (ca : By) (la ha : Int) (a4a : Option Addr) (n4a c4a : Nat) (a5a : Option Addr) (n5a c5a : Nat), nv = .int .i64 (n : Int) ∧ n ≤ 64 ∧ Hid (PkR (fun g => w.heap.size < g ∧ g ≠ b6) wr n st [.int .i64 ka, .string (tx ca), .int .i64 la, .int .i64 ha, .slice a4a n4a c4a, .slice a5a n5a c5a] r) ∧ Hid (SS wr R P0 st) ∧ Hid (w.grownBy wr (some R)) ∧ Hid (Bx wr w.heap.size z6) ∧ Hid (Bx wr b6 [.int .i64 ka, .string (tx ca), .int .i64 la, .int .i64 ha, .slice a4a n4a c4a, .slice a5a n5a c5a])) (fun nv _ => 64 - (intOf nv).toNat)
        case atStart => exact ⟨0, s3, ka, ca, la, ha, a4a, n4a, c4a, a5a, n5a, c5a, rfl, by omega, HP3, HS3, HG3, HB3, HK3⟩
        case round =>
          clear HP3 HS3 HG3 HB3 HK3 HPA HB2 HG2 HS2
          obtain ⟨n, st, ka, ca, la, ha, a4a, n4a, c4a, a5a, n5a, c5a, rfl, hn, HP, HS, HG, HBw, HB6⟩ := hrel
          obtain ⟨b, hb⟩ : ∃ b, nxtB sLeft st = b := ⟨_, rfl⟩
          have kn := rnxt_any HS.out sLeft (by decide) b hb
          have HB : Hid (nxtB sLeft st = b) := hb
          clear hb
          go_wp2_with fail
          refine kn.mono ?_
          rintro e w4 ⟨rfl, hb4⟩
          have HP4 : Hid (PkR (fun g => w.heap.size < g ∧ g ≠ b6) w4 n st [.int .i64 ka, .string (tx ca), .int .i64 la, .int .i64 ha, .slice a4a n4a c4a, .slice a5a n5a c5a] r) := HP.out.kp (KG.bl hb4)
          have HS4 : Hid (SS w4 R P0 st) := HS.out.at hb4
          have HG4 : Hid (w.grownBy w4 (some R)) := gb_trans HG.out (gb_below hb4)
          have HBw4 : Hid (Bx w4 w.heap.size z6) := HBw.out.at hb4
          have HB64 : Hid (Bx w4 b6 [.int .i64 ka, .string (tx ca), .int .i64 la, .int .i64 ha, .slice a4a n4a c4a, .slice a5a n5a c5a]) := HB6.out.at hb4
          clear kn hb4 HP HS HG HBw HB6
          cases b with
          | false =>
            have s0 := (HB64.out 0 _ rfl).c
            have s1 := (HB64.out 1 _ rfl).c
            have s2 := (HB64.out 2 _ rfl).c
            have s3 := (HB64.out 3 _ rfl).c
            have s4 := (HB64.out 4 _ rfl).c
            have s5 := (HB64.out 5 _ rfl).c
            have z0 := (HBw4.out 0 _ rfl).c
            have z1 := (HBw4.out 1 _ rfl).c
            have z2 := (HBw4.out 2 _ rfl).c
            have z3 := (HBw4.out 3 _ rfl).c
            have z4 := (HBw4.out 4 _ rfl).c
            have z5 := (HBw4.out 5 _ rfl).c
            have y0 := (HBw4.out 0 _ rfl).f
            have y1 := (HBw4.out 1 _ rfl).f
            have y2 := (HBw4.out 2 _ rfl).f
            have y3 := (HBw4.out 3 _ rfl).f
            have y4 := (HBw4.out 4 _ rfl).f
            have y5 := (HBw4.out 5 _ rfl).f
            obtain ⟨W9, hW9⟩ : ∃ W9, set6 w4 w.heap.size (.int .i64 ka) (.string (tx ca)) (.int .i64 la) (.int .i64 ha) (.slice a4a n4a c4a) (.slice a5a n5a c5a) = W9 := ⟨_, rfl⟩
            have HB9 : Hid (Bx W9 w.heap.size [.int .i64 ka, .string (tx ca), .int .i64 la, .int .i64 ha, .slice a4a n4a c4a, .slice a5a n5a c5a]) := hW9 ▸ set6_bx HBw4.out _ _ _ _ _ _
            have HS9 : Hid (SS W9 R P0 _) := hW9 ▸ HS4.out.six hXR hXP _ _ _ _ _ _
            have HG9 : Hid (w.grownBy W9 (some R)) := hW9 ▸ set6_gb HG4.out (Nat.le_refl _) _ _ _ _ _ _
            have HP9 : Hid (PkR (fun g => w.heap.size < g ∧ g ≠ b6) W9 n _ [.int .i64 ka, .string (tx ca), .int .i64 la, .int .i64 ha, .slice a4a n4a c4a, .slice a5a n5a c5a] r) := HP4.out.kp (hW9 ▸ KG.six (fun h => Nat.lt_irrefl _ h.1) _ _ _ _ _ _)
            unfold set6 at hW9
            go_wp2
            clear hW9
            have x0 := (HB9.out 0 _ rfl).c
            have x1 := (HB9.out 1 _ rfl).c
            have x2 := (HB9.out 2 _ rfl).c
            have x3 := (HB9.out 3 _ rfl).c
            have x4 := (HB9.out 4 _ rfl).c
            have x5 := (HB9.out 5 _ rfl).c
            exact bodyPost_ret (v := .agg #[.int .i64 ka, .string (tx ca), .int .i64 la, .int .i64 ha, .slice a4a n4a c4a, .slice a5a n5a c5a]) (by simp [results, Tryd.results34, go_sem, x0, x1, x2, x3, x4, x5]) rfl (pk_end HP9.out (fun g h => Nat.le_of_lt h.1) HS9.out HG9.out HB.out)
          | true =>
            cases st with
            | error e => have := HB.out; cases this
            | ok ps =>
              have h2 : hd ps = sLeft := by simpa [nxtB] using HB.out
              have H2 : Hid (hd ps = sLeft) := h2
              clear h2 HB
              by_cases c64 : n = 64
              · have c1 : ((n : Int) == 64) = true := by rw [c64]; rfl
                have kb := bad_any HS4.out 4 (by decide)
                have HC : Hid (n = 64) := c64
                clear c64
                go_wp2_with fail
                refine kb.mono ?_
                rintro e w5 ⟨rfl, hs, hg⟩
                have HS5 : Hid (SS w5 R P0 (.error (4, hat ps))) := hs
                have HG5 : Hid (w.grownBy w5 (some R)) := gb_trans HG4.out hg
                have HBw5 : Hid (Bx w5 w.heap.size z6) := HBw4.out.gb hg hXR
                have HB65 : Hid (Bx w5 b6 [.int .i64 ka, .string (tx ca), .int .i64 la, .int .i64 ha, .slice a4a n4a c4a, .slice a5a n5a c5a]) := HB64.out.gb hg hbR
                have HP5 : Hid (PkR (fun g => w.heap.size < g ∧ g ≠ b6) w5 n (.error (4, hat ps)) [.int .i64 ka, .string (tx ca), .int .i64 la, .int .i64 ha, .slice a4a n4a c4a, .slice a5a n5a c5a] r) := pk_much HP4.out H2.out HC.out
                clear kb hs hg HP4 HS4 HG4 HBw4 HB64
                have s0 := (HB65.out 0 _ rfl).c
                have s1 := (HB65.out 1 _ rfl).c
                have s2 := (HB65.out 2 _ rfl).c
                have s3 := (HB65.out 3 _ rfl).c
                have s4 := (HB65.out 4 _ rfl).c
                have s5 := (HB65.out 5 _ rfl).c
                have z0 := (HBw5.out 0 _ rfl).c
                have z1 := (HBw5.out 1 _ rfl).c
                have z2 := (HBw5.out 2 _ rfl).c
                have z3 := (HBw5.out 3 _ rfl).c
                have z4 := (HBw5.out 4 _ rfl).c
                have z5 := (HBw5.out 5 _ rfl).c
                have y0 := (HBw5.out 0 _ rfl).f
                have y1 := (HBw5.out 1 _ rfl).f
                have y2 := (HBw5.out 2 _ rfl).f
                have y3 := (HBw5.out 3 _ rfl).f
                have y4 := (HBw5.out 4 _ rfl).f
                have y5 := (HBw5.out 5 _ rfl).f
                obtain ⟨W9, hW9⟩ : ∃ W9, set6 w5 w.heap.size (.int .i64 ka) (.string (tx ca)) (.int .i64 la) (.int .i64 ha) (.slice a4a n4a c4a) (.slice a5a n5a c5a) = W9 := ⟨_, rfl⟩
                have HB9 : Hid (Bx W9 w.heap.size [.int .i64 ka, .string (tx ca), .int .i64 la, .int .i64 ha, .slice a4a n4a c4a, .slice a5a n5a c5a]) := hW9 ▸ set6_bx HBw5.out _ _ _ _ _ _
                have HS9 : Hid (SS W9 R P0 _) := hW9 ▸ HS5.out.six hXR hXP _ _ _ _ _ _
                have HG9 : Hid (w.grownBy W9 (some R)) := hW9 ▸ set6_gb HG5.out (Nat.le_refl _) _ _ _ _ _ _
                have HP9 : Hid (PkR (fun g => w.heap.size < g ∧ g ≠ b6) W9 n _ [.int .i64 ka, .string (tx ca), .int .i64 la, .int .i64 ha, .slice a4a n4a c4a, .slice a5a n5a c5a] r) := HP5.out.kp (hW9 ▸ KG.six (fun h => Nat.lt_irrefl _ h.1) _ _ _ _ _ _)
                unfold set6 at hW9
                go_wp2
                clear hW9
                have x0 := (HB9.out 0 _ rfl).c
                have x1 := (HB9.out 1 _ rfl).c
                have x2 := (HB9.out 2 _ rfl).c
                have x3 := (HB9.out 3 _ rfl).c
                have x4 := (HB9.out 4 _ rfl).c
                have x5 := (HB9.out 5 _ rfl).c
                exact bodyPost_ret (v := .agg #[.int .i64 ka, .string (tx ca), .int .i64 la, .int .i64 ha, .slice a4a n4a c4a, .slice a5a n5a c5a]) (by simp [results, Tryd.results34, go_sem, x0, x1, x2, x3, x4, x5]) rfl (pk_end HP9.out (fun g h => Nat.le_of_lt h.1) HS9.out HG9.out rfl)
              · have c1 : ((n : Int) == 64) = false := by
                  rw [beq_eq_false_iff_ne]; omega
                obtain ⟨cc, i, m, q0, q1, q2, q3, hin, hnc, hn6, p0, p1, hPR, _, _, _, hfz⟩ := HS4.out.alive
                have z1 : w4.frozen? ⟨R, 1, none⟩ = false := (hfz 1).resolve_right (by omega)
                have hw : IntKind.i64.wrap ((i : Int) + 1) = (i : Int) + 1 := by rw [IntKind.wrap_i64]; omega
                obtain ⟨W5, hW5⟩ : ∃ W5, w4.setCell ⟨R, 1, none⟩ (.int .i64 ((i : Int) + 1)) = W5 := ⟨_, rfl⟩
                have hk5 : KG (fun g => w.heap.size < g ∧ g ≠ b6) w4 W5 := hW5 ▸ KG.put (fun h => by have := h.1; omega) _ _
                have HS5 : Hid (SS W5 R P0 (.ok ps.tail)) := hW5 ▸ (show SS (w4.setCell ⟨R, 1, none⟩ (.int .i64 ((i : Int) + 1))) R P0 (.ok ps.tail) from HS4.out.step q1 (by rw [H2.out]; decide))
                have HG5 : Hid (w.grownBy W5 (some R)) := hW5 ▸ gb_set HG4.out 1 _
                have HBw5 : Hid (Bx W5 w.heap.size z6) := hW5 ▸ HBw4.out.oth hXR.symm _
                have HB65 : Hid (Bx W5 b6 [.int .i64 ka, .string (tx ca), .int .i64 la, .int .i64 ha, .slice a4a n4a c4a, .slice a5a n5a c5a]) := hW5 ▸ HB64.out.oth hbR.symm _
                obtain ⟨r6, hr6⟩ : ∃ r6, numP ps.tail = r6 := ⟨_, rfl⟩
                obtain ⟨s7, hs7⟩ : ∃ s7, nxS (onS (tk sRight) (nxS r6)) = s7 := ⟨_, rfl⟩
                have k6 := rnum50 HS5.out r6 hr6
                have HR6 : Hid (numP ps.tail = r6) := hr6
                have HS7e : Hid (nxS (onS (tk sRight) (nxS r6)) = s7) := hs7
                have HK5 : Hid (KG (fun g => w.heap.size < g ∧ g ≠ b6) w4 W5) := hk5
                have HN : Hid (n < 64) := by rw [Hid]; omega
                clear hfz hr6 hs7 hk5 c64
                go_wp2_with fail
                clear hW5 q0 q1 q2 q3 p0 p1 z1 hw HS4 HG4 HBw4 HB64
                refine k6.mono ?_
                intro e w6 hsp
                obtain ⟨nv, rfl, hnv, hs, hg⟩ := hsp.val
                have HNV : Hid (∀ a q, r6 = .ok (a, q) → nv = a) := hnv
                have HK6 : Hid (KG (fun g => w.heap.size < g ∧ g ≠ b6) w4 w6) := HK5.out.trans (KG.gb hg (fun h => by have := h.1; omega))
                have HG6 : Hid (w.grownBy w6 (some R)) := gb_trans HG5.out hg
                have HBw6 : Hid (Bx w6 w.heap.size z6) := HBw5.out.gb hg hXR
                have HB66 : Hid (Bx w6 b6 [.int .i64 ka, .string (tx ca), .int .i64 la, .int .i64 ha, .slice a4a n4a c4a, .slice a5a n5a c5a]) := HB65.out.gb hg hbR
                have k7 := want_any hs sRight (by decide) s7 HS7e.out
                clear k6 hsp hnv hs hg HK5 HG5 HBw5 HB65 HS5
                go_wp2_with fail
                refine k7.mono ?_
                rintro e w7 ⟨rfl, hs, hg⟩
                have HK7 : Hid (KG (fun g => w.heap.size < g ∧ g ≠ b6) w4 w7) := HK6.out.trans (KG.gb hg (fun h => by have := h.1; omega))
                have HG7 : Hid (w.grownBy w7 (some R)) := gb_trans HG6.out hg
                have HBw7 : Hid (Bx w7 w.heap.size z6) := HBw6.out.gb hg hXR
                have HB67 : Hid (Bx w7 b6 [.int .i64 ka, .string (tx ca), .int .i64 la, .int .i64 ha, .slice a4a n4a c4a, .slice a5a n5a c5a]) := HB66.out.gb hg hbR
                have HS7 : Hid (SS w7 R P0 s7) := hs
                clear k7 hs hg HK6 HG6 HBw6 HB66
                have hz7 : b6 < w7.heap.size := (HB67.out 0 _ rfl).lt
                obtain ⟨W8, hW8⟩ : ∃ W8, w7.alloc (.cells #[.int .i64 ka, .string (tx ca), .int .i64 la, .int .i64 ha, .slice a4a n4a c4a, .slice a5a n5a c5a] 25) = W8 := ⟨_, rfl⟩
                have hb8 : Below w7.heap.size w7 W8 := hW8 ▸ ba _ _
                have HK8 : Hid (Bx W8 w7.heap.size [.int .i64 ka, .string (tx ca), .int .i64 la, .int .i64 ha, .slice a4a n4a c4a, .slice a5a n5a c5a]) := hW8 ▸ Bx.new w7 [.int .i64 ka, .string (tx ca), .int .i64 la, .int .i64 ha, .slice a4a n4a c4a, .slice a5a n5a c5a] 25 rfl
                have HB68 : Hid (Bx W8 b6 [.int .i64 ka, .string (tx ca), .int .i64 la, .int .i64 ha, .slice a4a n4a c4a, .slice a5a n5a c5a]) := HB67.out.at hb8
                have u0 := (HB67.out 0 _ rfl).c
                have u1 := (HB67.out 1 _ rfl).c
                have u2 := (HB67.out 2 _ rfl).c
                have u3 := (HB67.out 3 _ rfl).c
                have u4 := (HB67.out 4 _ rfl).c
                have u5 := (HB67.out 5 _ rfl).c
                have z0 := (HB68.out 0 _ rfl).c
                have z1 := (HB68.out 1 _ rfl).c
                have z2 := (HB68.out 2 _ rfl).c
                have z3 := (HB68.out 3 _ rfl).c
                have z4 := (HB68.out 4 _ rfl).c
                have z5 := (HB68.out 5 _ rfl).c
                have y0 := (HB68.out 0 _ rfl).f
                have y1 := (HB68.out 1 _ rfl).f
                have y2 := (HB68.out 2 _ rfl).f
                have y3 := (HB68.out 3 _ rfl).f
                have y4 := (HB68.out 4 _ rfl).f
                have y5 := (HB68.out 5 _ rfl).f
                obtain ⟨W9, hW9⟩ : ∃ W9, set6 W8 b6 (.int .i64 9) (.string ⟨#[]⟩) (.int .i64 nv) (.int .i64 0) (.slice none 0 0) (.slice (some ⟨w7.heap.size, 0, none⟩) 1 1) = W9 := ⟨_, rfl⟩
                have hk9 : KG (fun g => w.heap.size < g ∧ g ≠ b6) W8 W9 := hW9 ▸ KG.six (fun h => h.2 rfl) _ _ _ _ _ _
                have hG9 : w.heap.size < w7.heap.size ∧ w7.heap.size ≠ b6 := ⟨by omega, by omega⟩
                have HP9 : Hid (PkR (fun g => w.heap.size < g ∧ g ≠ b6) W9 (n + 1) s7 [.int .i64 9, .string (tx []), .int .i64 nv, .int .i64 0, .slice none 0 0, .slice (some ⟨w7.heap.size, 0, none⟩) 1 1] r) :=
                  pk_next HP4.out H2.out HN.out HR6.out HS7e.out HNV.out (HK7.out.trans ((KG.bl hb8).trans hk9)) hG9 (Nat.lt_of_lt_of_le (HK8.out 0 _ rfl).lt hk9.1) (fun j u hu => (hk9.cell (g := w7.heap.size) (k := j) hG9 (HK8.out 0 _ rfl).lt).trans (HK8.out j u hu).c)
                have HS9 : Hid (SS W9 R P0 s7) := hW9 ▸ (HS7.out.at hb8).six hbR hbP _ _ _ _ _ _
                have HG9 : Hid (w.grownBy W9 (some R)) := hW9 ▸ set6_gb (gb_trans HG7.out (gb_below hb8)) (Nat.le_of_lt hbw) _ _ _ _ _ _
                have HBw9 : Hid (Bx W9 w.heap.size z6) := hW9 ▸ (HBw7.out.at hb8).sixo (by omega) _ _ _ _ _ _
                have HB69 : Hid (Bx W9 b6 [.int .i64 9, .string (tx []), .int .i64 nv, .int .i64 0, .slice none 0 0, .slice (some ⟨w7.heap.size, 0, none⟩) 1 1]) := hW9 ▸ set6_bx HB68.out _ _ _ _ _ _
                have hwn : IntKind.i64.wrap ((n : Int) + 1) = (n : Int) + 1 := by rw [IntKind.wrap_i64]; omega
                have hn1 : n + 1 ≤ 64 := HN.out
                unfold set6 at hW9
                clear hb8 hk9 hG9
                go_wp2
                clear hW8 hW9
                go_roundw
                case rel => exact ⟨n + 1, s7, 9, [], nv, 0, none, 0, 0, some ⟨w7.heap.size, 0, none⟩, 1, 1, by go_num, hn1, HP9, HS9, HG9, HBw9, HB69⟩
                case measure => simp [intOf]; omega
      | cons cD tD =>
        have hm : ¬ (cD :: tD) = sMinus := fun h => hc (.inl h)
        have hdD : digB cD = false := by
          cases hh : digB cD with
          | false => rfl
          | true => exact absurd (.inr hh) hc
        have qe := neqs (cD :: tD) sMinus true (by rw [decide_eq_false hm]; rfl)
        have qe2 := eqs (cD :: tD) [] false (by simp)
        have qe3 : ((cD :: tD) == ([] : By)) = false := rfl
        have qe4 : ((cD :: tD) == sMinus) = false := by rw [by_beq]; exact decide_eq_false hm
        have e0 := str_at (x := cD :: tD) (k := 0) (c := cD) rfl
        have hlen1 : 0 < (tx (cD :: tD)).size := by rw [hsz]; simp
        have kd := rdig_any cD.toNat w1 false hdD
        clear hc hm hdD
        generalize (cD :: tD) = XX at *
        go_wp2_with fail
        refine kd.mono ?_
        rintro e w1 ⟨rfl, rfl⟩
        clear kd
        go_wp2_with fail
        refine k1.mono ?_
        intro e w2 hsp
        obtain ⟨ka, ca, la, ha, a4a, n4a, c4a, a5a, n5a, c5a, rfl, hqa, hs, hg⟩ := hsp.ask
        have HB2 : Hid (Bx w2 w.heap.size z6) := HB1.out.gb hg hXR
        have HG2 : Hid (w.grownBy w2 (some R)) := gb_trans HG1.out hg
        have HS2 : Hid (SS w2 R P0 (nxS r1)) := hs
        have hz2 : w.heap.size < w2.heap.size := (HB2.out 0 _ rfl).lt
        obtain ⟨W3, hW3⟩ : ∃ W3, w2.alloc (.cells #[.int .i64 ka, .string (tx ca), .int .i64 la, .int .i64 ha, .slice a4a n4a c4a, .slice a5a n5a c5a] 25) = W3 := ⟨_, rfl⟩
        have hb3 : Below w2.heap.size w2 W3 := hW3 ▸ ba _ _
        obtain ⟨b6, hb6⟩ : ∃ b6, w2.heap.size = b6 := ⟨_, rfl⟩
        have HK3 : Hid (Bx W3 b6 [.int .i64 ka, .string (tx ca), .int .i64 la, .int .i64 ha, .slice a4a n4a c4a, .slice a5a n5a c5a]) := hW3 ▸ Bx.new w2 [.int .i64 ka, .string (tx ca), .int .i64 la, .int .i64 ha, .slice a4a n4a c4a, .slice a5a n5a c5a] 25 hb6.symm
        have HB3 : Hid (Bx W3 w.heap.size z6) := HB2.out.at hb3
        have HS3 : Hid (SS W3 R P0 (nxS r1)) := HS2.out.at hb3
        have HG3 : Hid (w.grownBy W3 (some R)) := gb_trans HG2.out (gb_below hb3)
        have HP3 : Hid (PkR (fun g => w.heap.size < g ∧ g ≠ b6) W3 0 (nxS r1) [.int .i64 ka, .string (tx ca), .int .i64 la, .int .i64 ha, .slice a4a n4a c4a, .slice a5a n5a c5a] r) := pk_start HPA.out fun a q e => QN.kp (KG.bl hb3) (fun g h hl => by have h' : w1.heap.size ≤ g := h; exact ⟨by omega, by omega⟩) a (hqa a q e)
        have hbw : w.heap.size < b6 := by omega
        have hbR : b6 ≠ R := by omega
        have hbP : b6 ≠ P0 := by omega
        obtain ⟨s3, hs3⟩ : ∃ s3, nxS r1 = s3 := ⟨_, rfl⟩
        rw [hs3] at HS3 HP3
        clear k1 hsp hqa hs hg hb3 hs3
        go_wp2
        clear hW3 hb6
        go_loopw [7] (fun nv wr => ∃ (n : Nat) (st : St) (ka : Int) (ca : By) (la ha : Int) (a4a : Option Addr) (n4a c4a : Nat) (a5a : Option Addr) (n5a c5a : Nat), nv = .int .i64 (n : Int) ∧ n ≤ 64 ∧ Hid (PkR (fun g => w.heap.size < g ∧ g ≠ b6) wr n st [.int .i64 ka, .string (tx ca), .int .i64 la, .int .i64 ha, .slice a4a n4a c4a, .slice a5a n5a c5a] r) ∧ Hid (SS wr R P0 st) ∧ Hid (w.grownBy wr (some R)) ∧ Hid (Bx wr w.heap.size z6) ∧ Hid (Bx wr b6 [.int .i64 ka, .string (tx ca), .int .i64 la, .int .i64 ha, .slice a4a n4a c4a, .slice a5a n5a c5a])) (fun nv _ => 64 - (intOf nv).toNat)
        case atStart => exact ⟨0, s3, ka, ca, la, ha, a4a, n4a, c4a, a5a, n5a, c5a, rfl, by omega, HP3, HS3, HG3, HB3, HK3⟩
        case round =>
          clear HP3 HS3 HG3 HB3 HK3 HPA HB2 HG2 HS2
          obtain ⟨n, st, ka, ca, la, ha, a4a, n4a, c4a, a5a, n5a, c5a, rfl, hn, HP, HS, HG, HBw, HB6⟩ := hrel
          obtain ⟨b, hb⟩ : ∃ b, nxtB sLeft st = b := ⟨_, rfl⟩
          have kn := rnxt_any HS.out sLeft (by decide) b hb
          have HB : Hid (nxtB sLeft st = b) := hb
          clear hb
          go_wp2_with fail
          refine kn.mono ?_
          rintro e w4 ⟨rfl, hb4⟩
          have HP4 : Hid (PkR (fun g => w.heap.size < g ∧ g ≠ b6) w4 n st [.int .i64 ka, .string (tx ca), .int .i64 la, .int .i64 ha, .slice a4a n4a c4a, .slice a5a n5a c5a] r) := HP.out.kp (KG.bl hb4)
          have HS4 : Hid (SS w4 R P0 st) := HS.out.at hb4
          have HG4 : Hid (w.grownBy w4 (some R)) := gb_trans HG.out (gb_below hb4)
          have HBw4 : Hid (Bx w4 w.heap.size z6) := HBw.out.at hb4
          have HB64 : Hid (Bx w4 b6 [.int .i64 ka, .string (tx ca), .int .i64 la, .int .i64 ha, .slice a4a n4a c4a, .slice a5a n5a c5a]) := HB6.out.at hb4
          clear kn hb4 HP HS HG HBw HB6
          cases b with
          | false =>
            have s0 := (HB64.out 0 _ rfl).c
            have s1 := (HB64.out 1 _ rfl).c
            have s2 := (HB64.out 2 _ rfl).c
            have s3 := (HB64.out 3 _ rfl).c
            have s4 := (HB64.out 4 _ rfl).c
            have s5 := (HB64.out 5 _ rfl).c
            have z0 := (HBw4.out 0 _ rfl).c
            have z1 := (HBw4.out 1 _ rfl).c
            have z2 := (HBw4.out 2 _ rfl).c
            have z3 := (HBw4.out 3 _ rfl).c
            have z4 := (HBw4.out 4 _ rfl).c
            have z5 := (HBw4.out 5 _ rfl).c
            have y0 := (HBw4.out 0 _ rfl).f
            have y1 := (HBw4.out 1 _ rfl).f
            have y2 := (HBw4.out 2 _ rfl).f
            have y3 := (HBw4.out 3 _ rfl).f
            have y4 := (HBw4.out 4 _ rfl).f
            have y5 := (HBw4.out 5 _ rfl).f
            obtain ⟨W9, hW9⟩ : ∃ W9, set6 w4 w.heap.size (.int .i64 ka) (.string (tx ca)) (.int .i64 la) (.int .i64 ha) (.slice a4a n4a c4a) (.slice a5a n5a c5a) = W9 := ⟨_, rfl⟩
            have HB9 : Hid (Bx W9 w.heap.size [.int .i64 ka, .string (tx ca), .int .i64 la, .int .i64 ha, .slice a4a n4a c4a, .slice a5a n5a c5a]) := hW9 ▸ set6_bx HBw4.out _ _ _ _ _ _
            have HS9 : Hid (SS W9 R P0 _) := hW9 ▸ HS4.out.six hXR hXP _ _ _ _ _ _
            have HG9 : Hid (w.grownBy W9 (some R)) := hW9 ▸ set6_gb HG4.out (Nat.le_refl _) _ _ _ _ _ _
            have HP9 : Hid (PkR (fun g => w.heap.size < g ∧ g ≠ b6) W9 n _ [.int .i64 ka, .string (tx ca), .int .i64 la, .int .i64 ha, .slice a4a n4a c4a, .slice a5a n5a c5a] r) := HP4.out.kp (hW9 ▸ KG.six (fun h => Nat.lt_irrefl _ h.1) _ _ _ _ _ _)
            unfold set6 at hW9
            go_wp2
            clear hW9
            have x0 := (HB9.out 0 _ rfl).c
            have x1 := (HB9.out 1 _ rfl).c
            have x2 := (HB9.out 2 _ rfl).c
            have x3 := (HB9.out 3 _ rfl).c
            have x4 := (HB9.out 4 _ rfl).c
            have x5 := (HB9.out 5 _ rfl).c
            exact bodyPost_ret (v := .agg #[.int .i64 ka, .string (tx ca), .int .i64 la, .int .i64 ha, .slice a4a n4a c4a, .slice a5a n5a c5a]) (by simp [results, Tryd.results34, go_sem, x0, x1, x2, x3, x4, x5]) rfl (pk_end HP9.out (fun g h => Nat.le_of_lt h.1) HS9.out HG9.out HB.out)
          | true =>
            cases st with
            | error e => have := HB.out; cases this
            | ok ps =>
              have h2 : hd ps = sLeft := by simpa [nxtB] using HB.out
              have H2 : Hid (hd ps = sLeft) := h2
              clear h2 HB
              by_cases c64 : n = 64
              · have c1 : ((n : Int) == 64) = true := by rw [c64]; rfl
                have kb := bad_any HS4.out 4 (by decide)
                have HC : Hid (n = 64) := c64
                clear c64
                go_wp2_with fail
                refine kb.mono ?_
                rintro e w5 ⟨rfl, hs, hg⟩
                have HS5 : Hid (SS w5 R P0 (.error (4, hat ps))) := hs
                have HG5 : Hid (w.grownBy w5 (some R)) := gb_trans HG4.out hg
                have HBw5 : Hid (Bx w5 w.heap.size z6) := HBw4.out.gb hg hXR
                have HB65 : Hid (Bx w5 b6 [.int .i64 ka, .string (tx ca), .int .i64 la, .int .i64 ha, .slice a4a n4a c4a, .slice a5a n5a c5a]) := HB64.out.gb hg hbR
                have HP5 : Hid (PkR (fun g => w.heap.size < g ∧ g ≠ b6) w5 n (.error (4, hat ps)) [.int .i64 ka, .string (tx ca), .int .i64 la, .int .i64 ha, .slice a4a n4a c4a, .slice a5a n5a c5a] r) := pk_much HP4.out H2.out HC.out
                clear kb hs hg HP4 HS4 HG4 HBw4 HB64
                have s0 := (HB65.out 0 _ rfl).c
                have s1 := (HB65.out 1 _ rfl).c
                have s2 := (HB65.out 2 _ rfl).c
                have s3 := (HB65.out 3 _ rfl).c
                have s4 := (HB65.out 4 _ rfl).c
                have s5 := (HB65.out 5 _ rfl).c
                have z0 := (HBw5.out 0 _ rfl).c
                have z1 := (HBw5.out 1 _ rfl).c
                have z2 := (HBw5.out 2 _ rfl).c
                have z3 := (HBw5.out 3 _ rfl).c
                have z4 := (HBw5.out 4 _ rfl).c
                have z5 := (HBw5.out 5 _ rfl).c
                have y0 := (HBw5.out 0 _ rfl).f
                have y1 := (HBw5.out 1 _ rfl).f
                have y2 := (HBw5.out 2 _ rfl).f
                have y3 := (HBw5.out 3 _ rfl).f
                have y4 := (HBw5.out 4 _ rfl).f
                have y5 := (HBw5.out 5 _ rfl).f
                obtain ⟨W9, hW9⟩ : ∃ W9, set6 w5 w.heap.size (.int .i64 ka) (.string (tx ca)) (.int .i64 la) (.int .i64 ha) (.slice a4a n4a c4a) (.slice a5a n5a c5a) = W9 := ⟨_, rfl⟩
                have HB9 : Hid (Bx W9 w.heap.size [.int .i64 ka, .string (tx ca), .int .i64 la, .int .i64 ha, .slice a4a n4a c4a, .slice a5a n5a c5a]) := hW9 ▸ set6_bx HBw5.out _ _ _ _ _ _
                have HS9 : Hid (SS W9 R P0 _) := hW9 ▸ HS5.out.six hXR hXP _ _ _ _ _ _
                have HG9 : Hid (w.grownBy W9 (some R)) := hW9 ▸ set6_gb HG5.out (Nat.le_refl _) _ _ _ _ _ _
                have HP9 : Hid (PkR (fun g => w.heap.size < g ∧ g ≠ b6) W9 n _ [.int .i64 ka, .string (tx ca), .int .i64 la, .int .i64 ha, .slice a4a n4a c4a, .slice a5a n5a c5a] r) := HP5.out.kp (hW9 ▸ KG.six (fun h => Nat.lt_irrefl _ h.1) _ _ _ _ _ _)
                unfold set6 at hW9
                go_wp2
                clear hW9
                have x0 := (HB9.out 0 _ rfl).c
                have x1 := (HB9.out 1 _ rfl).c
                have x2 := (HB9.out 2 _ rfl).c
                have x3 := (HB9.out 3 _ rfl).c
                have x4 := (HB9.out 4 _ rfl).c
                have x5 := (HB9.out 5 _ rfl).c
                exact bodyPost_ret (v := .agg #[.int .i64 ka, .string (tx ca), .int .i64 la, .int .i64 ha, .slice a4a n4a c4a, .slice a5a n5a c5a]) (by simp [results, Tryd.results34, go_sem, x0, x1, x2, x3, x4, x5]) rfl (pk_end HP9.out (fun g h => Nat.le_of_lt h.1) HS9.out HG9.out rfl)
              · have c1 : ((n : Int) == 64) = false := by
                  rw [beq_eq_false_iff_ne]; omega
                obtain ⟨cc, i, m, q0, q1, q2, q3, hin, hnc, hn6, p0, p1, hPR, _, _, _, hfz⟩ := HS4.out.alive
                have z1 : w4.frozen? ⟨R, 1, none⟩ = false := (hfz 1).resolve_right (by omega)
                have hw : IntKind.i64.wrap ((i : Int) + 1) = (i : Int) + 1 := by rw [IntKind.wrap_i64]; omega
                obtain ⟨W5, hW5⟩ : ∃ W5, w4.setCell ⟨R, 1, none⟩ (.int .i64 ((i : Int) + 1)) = W5 := ⟨_, rfl⟩
                have hk5 : KG (fun g => w.heap.size < g ∧ g ≠ b6) w4 W5 := hW5 ▸ KG.put (fun h => by have := h.1; omega) _ _
                have HS5 : Hid (SS W5 R P0 (.ok ps.tail)) := hW5 ▸ (show SS (w4.setCell ⟨R, 1, none⟩ (.int .i64 ((i : Int) + 1))) R P0 (.ok ps.tail) from HS4.out.step q1 (by rw [H2.out]; decide))
                have HG5 : Hid (w.grownBy W5 (some R)) := hW5 ▸ gb_set HG4.out 1 _
                have HBw5 : Hid (Bx W5 w.heap.size z6) := hW5 ▸ HBw4.out.oth hXR.symm _
                have HB65 : Hid (Bx W5 b6 [.int .i64 ka, .string (tx ca), .int .i64 la, .int .i64 ha, .slice a4a n4a c4a, .slice a5a n5a c5a]) := hW5 ▸ HB64.out.oth hbR.symm _
                obtain ⟨r6, hr6⟩ : ∃ r6, numP ps.tail = r6 := ⟨_, rfl⟩
                obtain ⟨s7, hs7⟩ : ∃ s7, nxS (onS (tk sRight) (nxS r6)) = s7 := ⟨_, rfl⟩
                have k6 := rnum50 HS5.out r6 hr6
                have HR6 : Hid (numP ps.tail = r6) := hr6
                have HS7e : Hid (nxS (onS (tk sRight) (nxS r6)) = s7) := hs7
                have HK5 : Hid (KG (fun g => w.heap.size < g ∧ g ≠ b6) w4 W5) := hk5
                have HN : Hid (n < 64) := by rw [Hid]; omega
                clear hfz hr6 hs7 hk5 c64
                go_wp2_with fail
                clear hW5 q0 q1 q2 q3 p0 p1 z1 hw HS4 HG4 HBw4 HB64
                refine k6.mono ?_
                intro e w6 hsp
                obtain ⟨nv, rfl, hnv, hs, hg⟩ := hsp.val
                have HNV : Hid (∀ a q, r6 = .ok (a, q) → nv = a) := hnv
                have HK6 : Hid (KG (fun g => w.heap.size < g ∧ g ≠ b6) w4 w6) := HK5.out.trans (KG.gb hg (fun h => by have := h.1; omega))
                have HG6 : Hid (w.grownBy w6 (some R)) := gb_trans HG5.out hg
                have HBw6 : Hid (Bx w6 w.heap.size z6) := HBw5.out.gb hg hXR
                have HB66 : Hid (Bx w6 b6 [.int .i64 ka, .string (tx ca), .int .i64 la, .int .i64 ha, .slice a4a n4a c4a, .slice a5a n5a c5a]) := HB65.out.gb hg hbR
                have k7 := want_any hs sRight (by decide) s7 HS7e.out
                clear k6 hsp hnv hs hg HK5 HG5 HBw5 HB65 HS5
                go_wp2_with fail
                refine k7.mono ?_
                rintro e w7 ⟨rfl, hs, hg⟩
                have HK7 : Hid (KG (fun g => w.heap.size < g ∧ g ≠ b6) w4 w7) := HK6.out.trans (KG.gb hg (fun h => by have := h.1; omega))
                have HG7 : Hid (w.grownBy w7 (some R)) := gb_trans HG6.out hg
                have HBw7 : Hid (Bx w7 w.heap.size z6) := HBw6.out.gb hg hXR
                have HB67 : Hid (Bx w7 b6 [.int .i64 ka, .string (tx ca), .int .i64 la, .int .i64 ha, .slice a4a n4a c4a, .slice a5a n5a c5a]) := HB66.out.gb hg hbR
                have HS7 : Hid (SS w7 R P0 s7) := hs
                clear k7 hs hg HK6 HG6 HBw6 HB66
                have hz7 : b6 < w7.heap.size := (HB67.out 0 _ rfl).lt
                obtain ⟨W8, hW8⟩ : ∃ W8, w7.alloc (.cells #[.int .i64 ka, .string (tx ca), .int .i64 la, .int .i64 ha, .slice a4a n4a c4a, .slice a5a n5a c5a] 25) = W8 := ⟨_, rfl⟩
                have hb8 : Below w7.heap.size w7 W8 := hW8 ▸ ba _ _
                have HK8 : Hid (Bx W8 w7.heap.size [.int .i64 ka, .string (tx ca), .int .i64 la, .int .i64 ha, .slice a4a n4a c4a, .slice a5a n5a c5a]) := hW8 ▸ Bx.new w7 [.int .i64 ka, .string (tx ca), .int .i64 la, .int .i64 ha, .slice a4a n4a c4a, .slice a5a n5a c5a] 25 rfl
                have HB68 : Hid (Bx W8 b6 [.int .i64 ka, .string (tx ca), .int .i64 la, .int .i64 ha, .slice a4a n4a c4a, .slice a5a n5a c5a]) := HB67.out.at hb8
                have u0 := (HB67.out 0 _ rfl).c
                have u1 := (HB67.out 1 _ rfl).c
                have u2 := (HB67.out 2 _ rfl).c
                have u3 := (HB67.out 3 _ rfl).c
                have u4 := (HB67.out 4 _ rfl).c
                have u5 := (HB67.out 5 _ rfl).c
                have z0 := (HB68.out 0 _ rfl).c
                have z1 := (HB68.out 1 _ rfl).c
                have z2 := (HB68.out 2 _ rfl).c
                have z3 := (HB68.out 3 _ rfl).c
                have z4 := (HB68.out 4 _ rfl).c
                have z5 := (HB68.out 5 _ rfl).c
                have y0 := (HB68.out 0 _ rfl).f
                have y1 := (HB68.out 1 _ rfl).f
                have y2 := (HB68.out 2 _ rfl).f
                have y3 := (HB68.out 3 _ rfl).f
                have y4 := (HB68.out 4 _ rfl).f
                have y5 := (HB68.out 5 _ rfl).f
                obtain ⟨W9, hW9⟩ : ∃ W9, set6 W8 b6 (.int .i64 9) (.string ⟨#[]⟩) (.int .i64 nv) (.int .i64 0) (.slice none 0 0) (.slice (some ⟨w7.heap.size, 0, none⟩) 1 1) = W9 := ⟨_, rfl⟩
                have hk9 : KG (fun g => w.heap.size < g ∧ g ≠ b6) W8 W9 := hW9 ▸ KG.six (fun h => h.2 rfl) _ _ _ _ _ _
                have hG9 : w.heap.size < w7.heap.size ∧ w7.heap.size ≠ b6 := ⟨by omega, by omega⟩
                have HP9 : Hid (PkR (fun g => w.heap.size < g ∧ g ≠ b6) W9 (n + 1) s7 [.int .i64 9, .string (tx []), .int .i64 nv, .int .i64 0, .slice none 0 0, .slice (some ⟨w7.heap.size, 0, none⟩) 1 1] r) :=
                  pk_next HP4.out H2.out HN.out HR6.out HS7e.out HNV.out (HK7.out.trans ((KG.bl hb8).trans hk9)) hG9 (Nat.lt_of_lt_of_le (HK8.out 0 _ rfl).lt hk9.1) (fun j u hu => (hk9.cell (g := w7.heap.size) (k := j) hG9 (HK8.out 0 _ rfl).lt).trans (HK8.out j u hu).c)
                have HS9 : Hid (SS W9 R P0 s7) := hW9 ▸ (HS7.out.at hb8).six hbR hbP _ _ _ _ _ _
                have HG9 : Hid (w.grownBy W9 (some R)) := hW9 ▸ set6_gb (gb_trans HG7.out (gb_below hb8)) (Nat.le_of_lt hbw) _ _ _ _ _ _
                have HBw9 : Hid (Bx W9 w.heap.size z6) := hW9 ▸ (HBw7.out.at hb8).sixo (by omega) _ _ _ _ _ _
                have HB69 : Hid (Bx W9 b6 [.int .i64 9, .string (tx []), .int .i64 nv, .int .i64 0, .slice none 0 0, .slice (some ⟨w7.heap.size, 0, none⟩) 1 1]) := hW9 ▸ set6_bx HB68.out _ _ _ _ _ _
                have hwn : IntKind.i64.wrap ((n : Int) + 1) = (n : Int) + 1 := by rw [IntKind.wrap_i64]; omega
                have hn1 : n + 1 ≤ 64 := HN.out
                unfold set6 at hW9
                clear hb8 hk9 hG9
                go_wp2
                clear hW8 hW9
                go_roundw
                case rel => exact ⟨n + 1, s7, 9, [], nv, 0, none, 0, 0, some ⟨w7.heap.size, 0, none⟩, 1, 1, by go_num, hn1, HP9, HS9, HG9, HBw9, HB69⟩
                case measure => simp [intOf]; omega
end Go.Proofs.YtidfkencjdjkbaaDoor
