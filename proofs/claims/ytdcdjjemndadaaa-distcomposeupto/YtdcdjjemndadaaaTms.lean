import Derived.Test.YtdcdjjemndadaaaEql
namespace Go.Proofs.Ytdcdjjemndadaaa
open Go.RowKit Go.Proofs.Ytdcdjjemndadaaa.Ds

/-- multiplied up to i -/
def mulI (g : Int) (ts : List Tr) (i : Nat) : List Tr := (ts.take i).map (fun t => (t.1, t.2.1, t.2.2 * g)) ++ ts.drop i
/-- all multiplied -/
def mulT (g : Int) (ts : List Tr) : List Tr := ts.map fun t => (t.1, t.2.1, t.2.2 * g)
def mulL (g : Int) (l : List Pt) : List Pt := l.map fun p => (p.1, p.2 * g)

theorem mulI_len (g : Int) (ts : List Tr) (i : Nat) : (mulI g ts i).length = ts.length := by simp [mulI]; omega
theorem mulI_get (g : Int) {ts : List Tr} {i : Nat} (h : i < ts.length) : (mulI g ts i)[i]? = ts[i]? := by
  have e : ((ts.take i).map (fun t : Tr => (t.1, t.2.1, t.2.2 * g))).length = i := by simp; omega
  rw [mulI, List.getElem?_append_right (by omega), e]; simp
theorem mulI_set (g : Int) {ts : List Tr} {i : Nat} {t : Tr} (h : ts[i]? = some t) : (mulI g ts i).set i (t.1, t.2.1, t.2.2 * g) = mulI g ts (i + 1) := by
  have hi := (List.getElem?_eq_some_iff.1 h).1
  have e : ((ts.take i).map (fun t : Tr => (t.1, t.2.1, t.2.2 * g))).length = i := by simp; omega
  have e2 : ts.drop i = t :: ts.drop (i + 1) := by rw [List.drop_eq_getElem_cons hi, (List.getElem?_eq_some_iff.1 h).2]
  rw [mulI, mulI, List.set_append_right _ _ (by omega), e, e2, List.take_add_one, h]
  simp
theorem mulI_all (g : Int) {ts : List Tr} {i : Nat} (h : ts.length ≤ i) : mulI g ts i = mulT g ts := by
  rw [mulI, List.take_of_length_le h, List.drop_eq_nil_of_le h, List.append_nil]; rfl
theorem mulI_zero (g : Int) (ts : List Tr) : mulI g ts 0 = ts := by simp [mulI]
theorem mulT_len (g : Int) (ts : List Tr) : (mulT g ts).length = ts.length := by simp [mulT]
theorem mulT_rd (g : Int) (ts : List Tr) : rd (mulT g ts) = mulL g (rd ts) := by simp [mulT, rd, mulL]
theorem mulT_mem {g : Int} {ts : List Tr} {t : Tr} (h : t ∈ mulT g ts) : ∃ u ∈ ts, t.1 = u.1 ∧ t.2.1 = u.2.1 := by
  obtain ⟨u, hu, rfl⟩ := List.mem_map.1 h; exact ⟨u, hu, rfl, rfl⟩

theorem grown_set {w w' : World} {b : Nat} (h : w.grownBy w' (some b)) (p : Addr) (hp : p.block = b) (v : Value) : w.grownBy (w'.setCell p v) (some b) :=
  ⟨h.os, h.tape, h.output, by simpa [World.setCell] using h.size, fun k hk hne => (Below.heap_setCell _ _ _ _ (by intro e; exact hne (by rw [e, hp]))).trans (h.block k hk hne)⟩

set_option maxHeartbeats 1000000 in
theorem times_any (lo : Nat) (v : Value) (ts : List Tr) (g : Int) (w : World) (ho : OwnN w lo v ts) (hk : ∀ t ∈ ts, 0 ≤ t.2.2 * g ∧ t.2.2 * g ≤ 4611686018427387904) (us : List Tr) (hu : mulT g ts = us) :
    Calls Try.prog 91 #[v, .int .i64 g] w fun e w' => e = .returned v ∧ OwnN w' lo v us ∧ w.grownBy w' v.ownBlock := by
  subst hu
  rcases ho with ⟨rfl, rfl⟩ | ⟨b, o, c, rfl, hc, hl, hlo, hrow, hI⟩
  · go_enter Try.func91, Try.ntmps91
    go_wp2
    go_loopw [8] (fun u wr => u = .int .i64 0 ∧ wr = w) (fun _ _ => 0)
    case atStart => exact ⟨rfl, rfl⟩
    case round =>
      obtain ⟨rfl, rfl⟩ := hrel
      go_wp2
      go_ret
      exact ⟨rfl, .inl ⟨rfl, rfl⟩, World.grownBy.refl _ _⟩
  · have HH : Hid (Row w b o ts ∧ (∀ t ∈ ts, Ints w w.heap.size b t.1 t.2.1) ∧ ∀ t ∈ ts, 0 ≤ t.2.2 * g ∧ t.2.2 * g ≤ 4611686018427387904) := ⟨hrow, hI, hk⟩
    have hbs := hrow.lt
    clear hrow hI hk
    go_enter Try.func91, Try.ntmps91
    go_wp2
    go_loopw [8] (fun u wq => ∃ j : Nat, u = .int .i64 (j : Int) ∧ j ≤ ts.length ∧ Hid (Row wq b o (mulI g ts j)) ∧ Hid (∀ t ∈ ts, Ints wq wq.heap.size b t.1 t.2.1) ∧ Hid (w.grownBy wq (some b))) (fun u _ => ts.length - (intOf u).toNat)
    case atStart => exact ⟨0, rfl, Nat.zero_le _, by rw [mulI_zero]; exact HH.out.1, HH.out.2.1, World.grownBy.refl _ _⟩
    case round =>
      obtain ⟨j, rfl, hjt, HR2, HI2, HG⟩ := hrel
      by_cases h2 : j < ts.length
      · obtain ⟨⟨s, xs, k⟩, hs⟩ := get_lt h2
        have hs2 : (mulI g ts j)[j]? = some (s, xs, k) := by rw [mulI_get _ h2]; exact hs
        obtain ⟨c1, c2⟩ := HR2.out.cells j _ hs2
        have c3 := HR2.out.thaw (j * 2 + 1) (by rw [mulI_len]; omega)
        rw [← Nat.add_assoc] at c3
        simp only at c1 c2
        obtain ⟨hk0, hk1⟩ := HH.out.2.2 _ (List.mem_of_getElem? hs)
        simp only at hk0 hk1
        have HS : Hid (ts[j]? = some (s, xs, k)) := hs
        obtain ⟨P, hP⟩ : ∃ P, k * g = P := ⟨_, rfl⟩
        rw [hP] at hk0 hk1
        have HR3 : Hid (Row (wr.setCell ⟨b, o + j * 2 + 1, none⟩ (.int .i64 P)) b o (mulI g ts (j + 1))) := by
          have := HR2.out.setW hs2 P
          rwa [show (mulI g ts j).set j (s, xs, P) = mulI g ts (j + 1) by rw [← hP]; exact mulI_set g hs] at this
        clear hs hs2
        go_wp2
        go_roundw
        case rel => exact ⟨j + 1, by go_num, h2, HR3, fun t ht => by simpa using (HI2.out t ht).set rfl _, grown_set HG.out _ rfl _⟩
        case measure => simp [intOf]; omega
      · have hown : Own wr lo (.slice (some ⟨b, o, none⟩) ts.length c) (mulT g ts) := by
          refine ⟨b, o, c, by rw [mulT_len], by rw [mulT_len]; exact hc, by rw [mulT_len]; exact hl, hlo, ?_, fun t ht => ?_⟩
          · rw [← mulI_all g (i := j) (by omega)]; exact HR2.out
          · obtain ⟨u, hu, e1, e2⟩ := mulT_mem ht
            rw [e1, e2]
            exact HI2.out u hu
        have HO : Hid (Own wr lo (.slice (some ⟨b, o, none⟩) ts.length c) (mulT g ts)) := hown
        clear hown HR2 HI2 HH
        go_wp2
        go_ret
        exact ⟨rfl, .inr HO.out, HG.out⟩
end Go.Proofs.Ytdcdjjemndadaaa
