import Derived.Test.YtjnclbhpdaonhaaDrw
import Derived.Test.YtjnclbhpdaonhaaDmr
import Derived.Test.YtjnclbhpdaonhaaCop
namespace Go.Proofs.Ytjnclbhpdaonhaa
open Go.RowKit Go.Proofs.Ytjnclbhpdaonhaa.Ds

/-- a roller's own cells -/
structure Rob (w : World) (E : Nat) (v : Value) (T nd u pl : Int) : Prop where
  c0 : w.cell? ⟨E, 0, none⟩ = some v
  c1 : w.cell? ⟨E, 1, none⟩ = some (.int .i64 T)
  c2 : w.cell? ⟨E, 2, none⟩ = some (.int .i64 nd)
  c3 : w.cell? ⟨E, 3, none⟩ = some (.int .i64 u)
  c4 : w.cell? ⟨E, 4, none⟩ = some (.int .i64 pl)
  fz : ∀ j, w.frozen? ⟨E, j, none⟩ = false
  lt : E < w.heap.size
theorem Rob.keep {w w' : World} {E N : Nat} {v : Value} {T nd u pl : Int} (h : Rob w E v T nd u pl) (b : Below N w w') (hE : E < N) : Rob w' E v T nd u pl :=
  ⟨(b.cell (p := ⟨E, 0, none⟩) hE).trans h.c0, (b.cell (p := ⟨E, 1, none⟩) hE).trans h.c1, (b.cell (p := ⟨E, 2, none⟩) hE).trans h.c2, (b.cell (p := ⟨E, 3, none⟩) hE).trans h.c3, (b.cell (p := ⟨E, 4, none⟩) hE).trans h.c4,
   fun j => (b.frozen (p := ⟨E, j, none⟩) hE).trans (h.fz j), Nat.lt_of_lt_of_le h.lt b.size⟩
theorem Rob.at {w w' : World} {E : Nat} {v : Value} {T nd u pl : Int} (h : Rob w E v T nd u pl) (b : Below w.heap.size w w') : Rob w' E v T nd u pl := h.keep b h.lt
theorem Rob.alloc {w : World} {E : Nat} {v : Value} {T nd u pl : Int} (h : Rob w E v T nd u pl) (o : Obj) : Rob (w.alloc o) E v T nd u pl := h.at (ba w o)
theorem Rob.drew {w : World} {E : Nat} {v : Value} {T nd u pl : Int} (h : Rob w E v T nd u pl) : Rob w.drew E v T nd u pl := ⟨h.c0, h.c1, h.c2, h.c3, h.c4, h.fz, h.lt⟩
theorem Rob.s1 {w : World} {E : Nat} {v : Value} {T nd u pl : Int} (h : Rob w E v T nd u pl) (x : Int) : Rob (w.setCell ⟨E, 1, none⟩ (.int .i64 x)) E v x nd u pl :=
  ⟨by rw [sc_other (by simp)]; exact h.c0, sc_same h.c1, by rw [sc_other (by simp)]; exact h.c2, by rw [sc_other (by simp)]; exact h.c3, by rw [sc_other (by simp)]; exact h.c4, fun j => by rw [sc_frozen]; exact h.fz j, by simpa using h.lt⟩
theorem Rob.s2 {w : World} {E : Nat} {v : Value} {T nd u pl : Int} (h : Rob w E v T nd u pl) (x : Int) : Rob (w.setCell ⟨E, 2, none⟩ (.int .i64 x)) E v T x u pl :=
  ⟨by rw [sc_other (by simp)]; exact h.c0, by rw [sc_other (by simp)]; exact h.c1, sc_same h.c2, by rw [sc_other (by simp)]; exact h.c3, by rw [sc_other (by simp)]; exact h.c4, fun j => by rw [sc_frozen]; exact h.fz j, by simpa using h.lt⟩
theorem Rob.s3 {w : World} {E : Nat} {v : Value} {T nd u pl : Int} (h : Rob w E v T nd u pl) (x : Int) : Rob (w.setCell ⟨E, 3, none⟩ (.int .i64 x)) E v T nd x pl :=
  ⟨by rw [sc_other (by simp)]; exact h.c0, by rw [sc_other (by simp)]; exact h.c1, by rw [sc_other (by simp)]; exact h.c2, sc_same h.c3, by rw [sc_other (by simp)]; exact h.c4, fun j => by rw [sc_frozen]; exact h.fz j, by simpa using h.lt⟩
theorem Rob.s4 {w : World} {E : Nat} {v : Value} {T nd u pl : Int} (h : Rob w E v T nd u pl) (x : Int) : Rob (w.setCell ⟨E, 4, none⟩ (.int .i64 x)) E v T nd u x :=
  ⟨by rw [sc_other (by simp)]; exact h.c0, by rw [sc_other (by simp)]; exact h.c1, by rw [sc_other (by simp)]; exact h.c2, by rw [sc_other (by simp)]; exact h.c3, sc_same h.c4, fun j => by rw [sc_frozen]; exact h.fz j, by simpa using h.lt⟩
theorem Rob.other {w : World} {E : Nat} {v : Value} {T nd u pl : Int} (h : Rob w E v T nd u pl) (b k : Nat) (hb : b ≠ E) (x : Value) : Rob (w.setCell ⟨b, k, none⟩ x) E v T nd u pl :=
  have hne : ∀ j, (⟨b, k, none⟩ : Addr) ≠ ⟨E, j, none⟩ := fun j e => hb (congrArg Addr.block e)
  ⟨by rw [sc_other (hne 0)]; exact h.c0, by rw [sc_other (hne 1)]; exact h.c1, by rw [sc_other (hne 2)]; exact h.c2, by rw [sc_other (hne 3)]; exact h.c3, by rw [sc_other (hne 4)]; exact h.c4, fun j => by rw [sc_frozen]; exact h.fz j, by simpa using h.lt⟩

theorem Rob.nd {w : World} {E : Nat} {v : Value} {T nd nd' u pl : Int} (h : Rob w E v T nd u pl) (e : nd = nd') : Rob w E v T nd' u pl := e ▸ h

/-- a roller's parts: below N, not in its own block -/
structure Rop (w : World) (N E : Nat) (a : Option Addr) (c : Nat) (ts : List Tr) : Prop where
  cap : ts.length ≤ c
  few : ts.length ≤ 4096
  row : ts ≠ [] → ∃ b o, a = some ⟨b, o, none⟩ ∧ b < N ∧ b ≠ E ∧ Cells w b o ts
  ls : ∀ t ∈ ts, Ints w N E t.1 t.2.1
theorem Rop.keep {w w' : World} {N E : Nat} {a : Option Addr} {c : Nat} {ts : List Tr} (h : Rop w N E a c ts) (hb : Below N w w') : Rop w' N E a c ts :=
  ⟨h.cap, h.few, fun hne => let ⟨b, o, h1, h2, h3, h4⟩ := h.row hne; ⟨b, o, h1, h2, h3, h4.keep hb h2⟩, fun t ht => (h.ls t ht).keep hb⟩
theorem Rop.gb {w w' : World} {N E : Nat} {a : Option Addr} {c : Nat} {ts : List Tr} (h : Rop w N E a c ts) (hg : w.grownBy w' (some E)) : Rop w' N E a c ts :=
  ⟨h.cap, h.few, fun hne => let ⟨b, o, h1, h2, h3, h4⟩ := h.row hne; ⟨b, o, h1, h2, h3, fun i t ht => ⟨hg.cell (h4 i t ht).1 (by simpa using h3), hg.cell (h4 i t ht).2 (by simpa using h3)⟩⟩, fun t ht => (h.ls t ht).gb hg⟩
theorem Rop.get {w : World} {N E : Nat} {a : Option Addr} {c : Nat} {ts : List Tr} (h : Rop w N E a c ts) {i : Nat} (hi : i < ts.length) :
    ∃ b o sa sc xs k, a = some ⟨b, o, none⟩ ∧ b < N ∧ b ≠ E ∧ ts[i]? = some (.slice sa xs.length sc, xs, k) ∧ w.cell? ⟨b, o + i * 2, none⟩ = some (.slice sa xs.length sc) ∧ w.cell? ⟨b, o + i * 2 + 1, none⟩ = some (.int .i64 k) ∧ Ints w N E (.slice sa xs.length sc) xs := by
  obtain ⟨b, o, ha, hb, hbe, hc⟩ := h.row (ne_of_lt hi)
  obtain ⟨⟨s, xs, k⟩, hs⟩ := get_lt hi
  have hI := h.ls _ (List.mem_of_getElem? hs)
  obtain ⟨sa, sc, he, r⟩ := hI
  simp only at he
  subst he
  obtain ⟨c1, c2⟩ := hc i _ hs
  exact ⟨b, o, sa, sc, xs, k, ha, hb, hbe, hs, c1, c2, sa, sc, rfl, r⟩

theorem rd_take1 {ts : List Tr} {i : Nat} {t : Tr} (h : ts[i]? = some t) : rd (ts.take (i + 1)) = rd (ts.take i) ++ [t.2] := by
  rw [List.take_add_one, h]; simp [rd]
theorem lvT_take {T pl : Int} {ts : List Tr} {i : Nat} {s : Value} {xs : List Int} {k : Int} (h : ts[i]? = some (s, xs, k)) :
    lvT T pl (rd (ts.take (i + 1))) = lvT T pl (rd (ts.take i)) ++ if T ≤ 2 * rm T pl k then [xs] else [] := by
  rw [rd_take1 h, lvT_append, lvT_cons]; rfl
theorem lvT_at {T pl : Int} {ts : List Tr} {i : Nat} {s : Value} {xs : List Int} {k : Int} (h : ts[i]? = some (s, xs, k)) (hl : T ≤ 2 * rm T pl k) :
    (lvT T pl (rd ts))[(lvT T pl (rd (ts.take i))).length]? = some xs := by
  have e : rd ts = rd (ts.take (i + 1)) ++ rd (ts.drop (i + 1)) := by
    unfold rd
    rw [← List.map_append, List.take_append_drop]
  rw [e, lvT_append, lvT_take h, if_pos hl, List.append_assoc, List.getElem?_append_right (Nat.le_refl _)]
  simp
theorem Rv.other {w : World} {R : Nat} {s : Value} {k : Int} (h : Rv w R s k) (b j : Nat) (hb : b ≠ R) (x : Value) : Rv (w.setCell ⟨b, j, none⟩ x) R s k :=
  have hne : ∀ i, (⟨b, j, none⟩ : Addr) ≠ ⟨R, i, none⟩ := fun i e => hb (congrArg Addr.block e)
  ⟨by rw [sc_other (hne 0)]; exact h.c0, by rw [sc_other (hne 1)]; exact h.c1, by rw [sc_frozen]; exact h.f0, by rw [sc_frozen]; exact h.f1, by simpa using h.lt⟩

theorem begun_any (w : World) : Calls Try.prog 29 #[] w fun e w' => e = .returned (.agg #[.int .i64 0, .int .i64 0, .int .i64 1]) ∧ Below w.heap.size w w' := by
  go_enter Try.func29, Try.ntmps29
  go_wp2
  exact bodyPost_ret (v := .agg #[.int .i64 0, .int .i64 0, .int .i64 1]) (by simp [results, Try.results29, go_sem]) rfl ⟨rfl, ba _ _⟩

set_option maxHeartbeats 1000000 in
theorem leaf_any (E : Nat) (v sv : Value) (T nd u pl k : Int) (w : World) (h : Rob w E v T nd u pl) (hsv : ∃ a n c, sv = .slice a n c) (hT : 1 ≤ T ∧ T ≤ 1073741824) (hp : 0 ≤ pl ∧ pl < T) (hk : 0 ≤ k ∧ k ≤ 1073741824) (r : Bool) (hr : decide (T ≤ 2 * rm T pl k) = r) :
    Calls Try.prog 35 #[.pointer (some ⟨E, 0, none⟩), .agg #[sv, .int .i64 k]] w fun e w' => e = .returned (.bool r) ∧ Below w.heap.size w w' := by
  obtain ⟨sa, sn, sc, rfl⟩ := hsv
  have H : Hid (Rob w E v T nd u pl) := h
  have HR : Hid (decide (T ≤ 2 * (k * pl % T)) = r) := hr
  have hz : 0 ≤ k * pl ∧ k * pl ≤ 1152921504606846976 := ⟨Int.mul_nonneg hk.1 hp.1, Int.le_trans (Int.mul_le_mul hk.2 (show pl ≤ 1073741824 by omega) hp.1 (by omega)) (by omega)⟩
  obtain ⟨P, hP⟩ : ∃ P, k * pl = P := ⟨_, rfl⟩
  have HP : Hid (k * pl = P) := hP
  rw [hP] at hz
  have hm : 0 ≤ P % T ∧ P % T < T := ⟨Int.emod_nonneg _ (by omega), Int.emod_lt_of_pos _ (by omega)⟩
  rw [Hid, hP] at HR
  have HR2 : Hid (decide (T ≤ 2 * (P % T)) = r) := HR
  clear HR
  have c1 := (H.out.alloc (.cells #[.slice sa sn sc, .int .i64 k] 40)).c1
  have c4 := (H.out.alloc (.cells #[.slice sa sn sc, .int .i64 k] 40)).c4
  have hT0 : ¬ T = 0 := by omega
  clear h hr
  go_enter Try.func35, Try.ntmps35
  go_wp2
  go_region
  obtain ⟨M, hM⟩ : ∃ M, P % T = M := ⟨_, rfl⟩
  rw [Hid, hM] at HR2
  rw [hM] at hm ⊢
  have HR3 : Hid (decide (T ≤ 2 * M) = r) := HR2
  clear hM HR2 hP HP
  go_wp2
  go_ret
  exact ⟨ret_b HR3.out, (ba _ _).drew⟩
end Go.Proofs.Ytjnclbhpdaonhaa
