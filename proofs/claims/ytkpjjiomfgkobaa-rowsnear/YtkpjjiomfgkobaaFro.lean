import Derived.Test.YtkpjjiomfgkobaaClc
import Derived.Test.YtkpjjiomfgkobaaCll
import Derived.Test.YtkpjjiomfgkobaaTog
import Derived.Deep.DeepCutAuto
import Derived.Deep.AppendLies
import Derived.Deep.RegionLaw
namespace Go.Proofs.Ytkpjjiomfgkobaa
open Go.RowKit Go.Proofs.Ytkpjjiomfgkobaa.Ds

/-- what rows.FromCells answers: all of it is new -/
def FromN (lc : List Col) (rs : List (List Int)) (er : Int) (w : World) (e : Ending) (w' : World) : Prop :=
  ∃ cv rv ts, e = .returned (.tuple #[.agg #[cv, rv], .int .i64 er]) ∧ Cols w' w'.heap.size cv lc ∧ Rws w' w'.heap.size rv ts ∧ rr ts = rs ∧ Adr (fun b => w.heap.size ≤ b ∧ b < w'.heap.size) cv ∧ AdrR (fun b => w.heap.size ≤ b ∧ b < w'.heap.size) rv ts ∧ Below w.heap.size w w'
/-- 'make' of no rows, with room for n -/
theorem make_rows (n : Nat) (hn : n ≤ 4096) (u : World) : (Instr.makeSlice 23 (.int .i64 0) (.int .i64 (n : Int))).run Try.prog u =
    .ok (.slice (some ⟨u.heap.size, 0, none⟩) 0 n) (u.alloc (.cells (madeCells #[.slice none 0 0] n) 26)) := by
  obtain ⟨i0, hi, hz0, hz1, hz2⟩ := info_parts info26
  have h := run_make (P := Try.prog) u 23 26 i0 (.slice none 0 0) Try.underlying23 hi hz0 .i64 .i64 0 (n : Int) (by omega) (by omega) (by rw [hz2]; omega) (by omega)
  rw [Int.toNat_natCast] at h
  simpa [hz1, Value.cells] using h

theorem Rwr.nil_gb {w w' : World} {lo : Nat} {v : Value} {row : Option Nat} (h : Rwr w lo v []) (hg : w.grownBy w' row) (ha : Adr (fun b => row ≠ some b) v) : Rwr w' lo v [] := by
  refine ⟨?_, by simp⟩
  obtain ⟨h1, h2 | ⟨g, cap, cur, hv, hb, hcur, h3⟩⟩ := h.1
  · exact ⟨h1, .inl h2⟩
  · exact ⟨h1, .inr ⟨g, cap, cur, hv, hb, by rw [hg.block g (Array.getElem?_eq_some_iff.1 hcur).1 (fun e => ha g 0 _ _ hv e.symm)]; exact hcur, h3⟩⟩
theorem Cols.adr {w : World} {B : Nat} {v : Value} {l : List Col} (h : Cols w B v l) (hne : l ≠ []) : Adr (fun b => b < B) v := by
  obtain ⟨a, c, hv, _, _, _, hx⟩ := h
  obtain ⟨b, o, e, hb, _⟩ := hx hne
  rw [hv, e]
  exact adr_at hb
theorem Adr.and {P P' : Nat → Prop} {v : Value} (h : Adr P v) (k : Adr P' v) : Adr (fun b => P b ∧ P' b) v := fun b o n c e => ⟨h b o n c e, k b o n c e⟩
theorem Rwr.adrlt {w : World} {lo : Nat} {v : Value} {ts : List Rw} (h : Rwr w lo v ts) (hne : ∀ t ∈ ts, t.2 ≠ []) : AdrR (fun b => b < w.heap.size) v ts := by
  refine ⟨fun b o n c e => ?_, fun t ht => ?_⟩
  · obtain ⟨g, c', e', _, hg⟩ := owns_some h.1 (by rw [e]; simp)
    rw [e] at e'
    simp at e'
    omega
  · obtain ⟨m, ⟨a, c, hv, _, _, hx⟩, _⟩ := h.2 t ht
    obtain ⟨b, o, ea, hb, _⟩ := hx (hne t ht)
    rw [hv, ea]
    exact adr_at hb
theorem AdrR.and {P P' : Nat → Prop} {v : Value} {ts : List Rw} (h : AdrR P v ts) (k : AdrR P' v ts) : AdrR (fun b => P b ∧ P' b) v ts := ⟨h.1.and k.1, fun t ht => (h.2 t ht).and (k.2 t ht)⟩
theorem froR_mem {rows : List (List Int)} {cells r : List Int} (h : r ∈ froR rows cells) : r ∈ rows := by
  obtain ⟨p, hp, h2⟩ := List.mem_flatMap.1 h
  rw [(List.mem_replicate.1 h2).2]
  exact (List.of_mem_zip hp).1
theorem rwr_made (u : World) (lo n : Nat) (hn : n ≤ 4096) (hlo : lo ≤ u.heap.size) : Rwr (u.alloc (.cells (madeCells #[.slice none 0 0] n) 26)) lo (.slice (some ⟨u.heap.size, 0, none⟩) 0 n) [] :=
  ⟨World.ownsRow_made u _ n hlo (by simp [maxLen]; omega) (by simp [madeCells]), by simp⟩
theorem owns_gb {w w' : World} {base : Nat} {e : TypeId} {size : Nat} {v : Value} {n : Nat} {xs : List Value} {row : Option Nat} (h : w.ownsRow base e size v n xs) (hg : w.grownBy w' row) (hr : ∀ g, v.ownBlock = some g → row ≠ some g) : w'.ownsRow base e size v n xs := by
  obtain ⟨h1, h2⟩ := h
  refine ⟨h1, ?_⟩
  rcases h2 with h2 | ⟨g, cap, cur, hv, hb, hcur, h3⟩
  · exact .inl h2
  · exact .inr ⟨g, cap, cur, hv, hb, by rw [hg.block g (Array.getElem?_eq_some_iff.1 hcur).1 (fun e => hr g (by rw [hv]; rfl) e.symm)]; exact hcur, h3⟩
/-- a store into a block that is not the rows' own -/
theorem Rwr.setT {w : World} {lo T k : Nat} {v : Value} {ts : List Rw} (h : Rwr w lo v ts) (hT : v.ownBlock ≠ some T) (hs : Som (T + 1) ts) (u : Value) : Rwr (w.setCell ⟨T, k, none⟩ u) lo v ts := by
  refine ⟨owns_gb h.1 (gb_set (gb_refl _ _) k u) (fun g e1 e2 => hT (by rw [e1, e2])), fun t ht => ?_⟩
  obtain ⟨m, h1, h2⟩ := h.2 t ht
  obtain ⟨b, o, n, c, e, hb⟩ := hs t ht
  exact ⟨m, by have := h1.setb (b := T) (k := k) ⟨b, o, n, c, e, hb⟩ u; simpa [World.setCell] using this, h2⟩
theorem togE_ok {n a : Int} {r : List Int} (h : (if n < 0 then (3 : Int) else if 4096 - a < n then 4 else togE (a + n) r) = 0) : 0 ≤ n ∧ n ≤ 4096 - a ∧ togE (a + n) r = 0 := by
  split at h
  · cases h
  · split at h
    · cases h
    · exact ⟨by omega, by omega, h⟩
/-- a table that is begun: its block, its columns, its rows -/
def Made (w3 : World) (l : List Col) (T : Nat) (cv rv : Value) (wx : World) : Prop :=
  TwoB wx T cv rv ∧ Cols wx wx.heap.size cv l ∧ Adr (fun b => w3.heap.size ≤ b ∧ b ≠ T ∧ rv.ownBlock ≠ some b) cv ∧ Rwr wx w3.heap.size rv [] ∧ rv.ownBlock ≠ some T ∧ w3.heap.size ≤ T ∧ Below w3.heap.size w3 wx
theorem made_put {w3 u : World} {l : List Col} {T : Nat} {x y cv rv : Value} (h1 : TwoB u T x y) (h2 : Cols u u.heap.size cv l) (h3 : Adr (fun b => w3.heap.size ≤ b ∧ b ≠ T ∧ rv.ownBlock ≠ some b) cv) (h4 : Rwr u w3.heap.size rv []) (h5 : rv.ownBlock ≠ some T) (h6 : w3.heap.size ≤ T) (h7 : Below w3.heap.size w3 u) :
    Made w3 l T cv rv ((u.setCell ⟨T, 0, none⟩ cv).setCell ⟨T, 1, none⟩ rv) := by
  have hg : u.grownBy ((u.setCell ⟨T, 0, none⟩ cv).setCell ⟨T, 1, none⟩ rv) (some T) := gb_set (gb_set (gb_refl _ _) 0 _) 1 _
  refine ⟨h1.put _ _, (h2.gb hg (h3.imp fun b hb => by simp; exact fun e => hb.2.1 e.symm)).mono hg.size, h3, h4.nil_gb hg (fun b o n c e e2 => h5 (by rw [e, Value.ownBlock]; exact e2.symm)), h5, h6, (h7.setCell (p := ⟨T, 0, none⟩) h6 _).setCell (p := ⟨T, 1, none⟩) h6 _⟩

/-- one row more -/
theorem more_row {w3 wr w5 w6 : World} {T g cap n0 : Nat} {cv : Value} {na : Option Addr} {ncp : Nat} {ns : List Rw} {r : List Int} {l : List Col} (hne : l ≠ [])
    (HT : TwoB wr T cv (.slice na ns.length ncp)) (HC : Cols wr wr.heap.size cv l) (HA : Adr (fun b => w3.heap.size ≤ b ∧ b ≠ T ∧ (Value.slice na ns.length ncp).ownBlock ≠ some b) cv) (HW : Rwr wr w3.heap.size (.slice na ns.length ncp) ns) (HM : Som n0 ns) (HN : (Value.slice na ns.length ncp).ownBlock ≠ some T)
    (hT3 : w3.heap.size ≤ T) (hT : T < n0) (hn0 : n0 ≤ wr.heap.size) (hbr : Below w3.heap.size w3 wr) (hR5 : RowI w5 (wr.heap.size + 1) r) (hrl : r.length ≤ 6) (hb5 : Below wr.heap.size wr w5)
    (hown : w6.ownsRow w3.heap.size 26 1 (.slice (some ⟨g, 0, none⟩) (ns.length + 1) cap) (ns.length + 1) (ns.map (·.1) ++ [.slice (some ⟨wr.heap.size + 1, 0, none⟩) r.length r.length]))
    (hgrow : (w5.alloc (.cells #[.slice (some ⟨wr.heap.size + 1, 0, none⟩) r.length r.length] 26)).grownBy w6 (Value.slice na ns.length ncp).ownBlock)
    (hat : (Value.slice na ns.length ncp).ownBlock = some g ∨ g = w5.heap.size + 1) :
    TwoB (w6.setCell ⟨T, 1, none⟩ (.slice (some ⟨g, 0, none⟩) (ns.length + 1) cap)) T cv (.slice (some ⟨g, 0, none⟩) (ns.length + 1) cap) ∧
    Cols (w6.setCell ⟨T, 1, none⟩ (.slice (some ⟨g, 0, none⟩) (ns.length + 1) cap)) (w6.setCell ⟨T, 1, none⟩ (.slice (some ⟨g, 0, none⟩) (ns.length + 1) cap)).heap.size cv l ∧
    Adr (fun b => w3.heap.size ≤ b ∧ b ≠ T ∧ (Value.slice (some ⟨g, 0, none⟩) (ns.length + 1) cap).ownBlock ≠ some b) cv ∧
    Rwr (w6.setCell ⟨T, 1, none⟩ (.slice (some ⟨g, 0, none⟩) (ns.length + 1) cap)) w3.heap.size (.slice (some ⟨g, 0, none⟩) (ns.length + 1) cap) (ns ++ [(.slice (some ⟨wr.heap.size + 1, 0, none⟩) r.length r.length, r)]) ∧
    Som n0 (ns ++ [(.slice (some ⟨wr.heap.size + 1, 0, none⟩) r.length r.length, r)]) ∧
    (Value.slice (some ⟨g, 0, none⟩) (ns.length + 1) cap).ownBlock ≠ some T ∧
    Below w3.heap.size w3 (w6.setCell ⟨T, 1, none⟩ (.slice (some ⟨g, 0, none⟩) (ns.length + 1) cap)) ∧ n0 ≤ (w6.setCell ⟨T, 1, none⟩ (.slice (some ⟨g, 0, none⟩) (ns.length + 1) cap)).heap.size := by
  have hbU : Below wr.heap.size wr (w5.alloc (.cells #[.slice (some ⟨wr.heap.size + 1, 0, none⟩) r.length r.length] 26)) := bal hb5 _
  have hs5 := hb5.size
  have hs6 := hgrow.size
  simp only [World.size_alloc] at hs6
  have hgT : (Value.slice (some ⟨g, 0, none⟩) (ns.length + 1) cap).ownBlock ≠ some T := by
    intro e
    have e : g = T := by simpa [Value.ownBlock] using e
    rcases hat with h | h
    · exact HN (by rw [h, e])
    · omega
  have hm5 : Som n0 (ns ++ [(.slice (some ⟨wr.heap.size + 1, 0, none⟩) r.length r.length, r)]) := HM.snoc (by omega)
  obtain ⟨m, hm1, hm2, hm3⟩ := own_or2 HW.lt (by omega : w3.heap.size < wr.heap.size)
  have hW := (HW.keep hbU).app hown hgrow (hat.imp (fun h => by rw [h]; rfl) (fun h => by rw [h]; simp [Value.ownBlock])) ((hR5.ints (by omega) m (by omega)).at2 (ba _ _)) hm3
  have hg2 : w6.grownBy (w6.setCell ⟨T, 1, none⟩ (.slice (some ⟨g, 0, none⟩) (ns.length + 1) cap)) (some T) := gb_set (gb_refl _ _) 1 _
  have hA2 : Adr (fun b => (Value.slice na ns.length ncp).ownBlock ≠ some b) cv := HA.imp fun b h => h.2.2
  refine ⟨((HT.below hbU).gb hgrow HN).set1 _, ?_, ?_, hW.setT hgT (hm5.mono (by omega)) _, hm5, hgT, ?_, by simp; omega⟩
  · have h1 := (HC.at (Nat.le_refl _) hbU).gb hgrow hA2
    exact (h1.gb hg2 (HA.imp fun b h => by simp; exact fun e => h.2.1 e.symm)).mono (by simp; omega)
  · refine (HA.and (HC.adr hne)).imp fun b h => ⟨h.1.1, h.1.2.1, fun e => ?_⟩
    have e : g = b := by simpa [Value.ownBlock] using e
    rcases hat with h2 | h2
    · exact h.1.2.2 (by rw [h2, e])
    · omega
  · exact ((bt hbr hbU).grown hgrow (by simp; have := hbr.size; omega) (owns_block HW.1)).setCell (p := ⟨T, 1, none⟩) hT3 _

set_option maxHeartbeats 4000000 in
set_option maxRecDepth 100000 in
theorem from_any (B Bi nb : Nat) (cv u : Value) (l : List Col) (xs : List Int) (w : World) (hB : B ≤ w.heap.size) (hp : Cols w B cv l) (hBi : Bi ≤ w.heap.size) (hu : Ints w Bi nb u xs) (lc : List Col) (rs : List (List Int)) (er : Int) (h1 : froC l xs = lc) (h2 : froT l xs = rs) (h3 : froE l xs = er) :
    Calls Try.prog 13 #[cv, u] w (FromN lc rs er w) := by
  have HP : Hid (Cols w B cv l) := hp
  have HU : Hid (Ints w Bi nb u xs) := hu
  have H1 : Hid (froC l xs = lc) := h1
  have H2 : Hid (froT l xs = rs) := h2
  have H3 : Hid (froE l xs = er) := h3
  obtain ⟨a, c, rfl, hc, hl⟩ := hp.slice
  obtain ⟨a2, c2, rfl, hc2, hl2⟩ := hu.slice
  obtain ⟨i26, hi26, hz0, hz1, hz2⟩ := info_parts info26
  clear h1 h2 h3
  obtain ⟨W, hW⟩ : ∃ W, w.alloc (.cells #[.slice none 0 0, .slice none 0 0] 25) = W := ⟨_, rfl⟩
  have hbW : Below w.heap.size w W := by rw [← hW]; exact ba _ _
  have hsW : W.heap.size = w.heap.size + 1 := by rw [← hW]; simp
  have HR0 : Hid (TwoB W w.heap.size (.slice none 0 0) (.slice none 0 0)) := by rw [← hW]; exact TwoB.new _ _ _ _ _ rfl
  obtain ⟨ec, hec⟩ : ∃ ec, Hid (colE l = ec) := ⟨_, rfl⟩
  have kc := columns_any B _ l W (by omega) (HP.out.at hB hbW) ec hec.out
  go_enter Try.func13, Try.ntmps13
  go_wp2_with fail
  clear hW
  refine kc.mono ?_
  rintro e w1 ⟨rfl, hb1⟩
  have HR1 : Hid (TwoB w1 w.heap.size (.slice none 0 0) (.slice none 0 0)) := HR0.out.below hb1
  have hbw1 : Below w.heap.size w w1 := bt hbW hb1
  have hs1 : w.heap.size < w1.heap.size := by have := hb1.size; omega
  clear kc hb1 HR0
  by_cases he0 : ec = 0
  · subst he0
    have HC := colE_ok hec.out
    have HO : Hid (l.length ≤ 6 ∧ Szs l ∧ prd l ≤ 4096) := ⟨HC.2.1, HC.2.2.1, HC.2.2.2.1⟩
    obtain ⟨n, hn⟩ : ∃ n, Hid (prd l = n) := ⟨_, rfl⟩
    have hn4 : n ≤ 4096 := by rw [← hn.out]; exact HO.out.2.2
    have kc := size_any B _ l w1 (by omega) (HP.out.at hB hbw1) HO.out.2.1 n (by rw [hn.out]; omega)
    clear HC
    go_wp2_with fail
    refine kc.mono ?_
    rintro e w2 ⟨rfl, hb2⟩
    have HR2 : Hid (TwoB w2 w.heap.size (.slice none 0 0) (.slice none 0 0)) := HR1.out.below hb2
    have hbw2 : Below w.heap.size w w2 := bt hbw1 hb2
    have hs2 : w.heap.size < w2.heap.size := by have := hb2.size; omega
    clear kc hb2 HR1
    by_cases hlen : xs.length = n
    · have hle : ((xs.length : Int) != (n : Int)) = false := by simp [hlen]
      have HLN : Hid (xs.length = n) := hlen
      have HE : Hid (togE 0 xs = er) := by rw [Hid, ← H3.out, froE, if_pos hec.out, if_pos (hlen.trans hn.out.symm)]
      clear hlen
      have kc := together_any Bi nb _ xs w2 (by have := hbw2.size; omega) (HU.out.at hBi hbw2) er HE.out
      go_wp2_with fail
      refine kc.mono ?_
      rintro e w3 ⟨tn, htn, rfl, rfl⟩
      clear kc
      by_cases hr0 : er = 0
      · subst hr0
        have hmk : ∀ u : World, (Instr.makeSlice 23 (.int .i64 0) (.int .i64 (tn : Int))).run Try.prog u = .ok (.slice (some ⟨u.heap.size, 0, none⟩) 0 tn) (u.alloc (.cells (madeCells #[.slice none 0 0] tn) 26)) := make_rows tn htn
        have HNE : Hid (l ≠ []) := by intro h; have := (colE_ok hec.out).1; rw [h] at this; simp at this
        go_wp2_with fail
        go_cut [9] (fun pv wx => ∃ (T : Nat) (cv rv : Value), pv = .pointer (some ⟨T, 0, none⟩) ∧ Made w3 l T cv rv wx)
        case first =>
          go_region_held3 (fun _ => True) (trivial) ((go_at_call 32; refine (cloneC_new B _ l _ ?_ ?_ (by have := HO.out.1; omega)).mono ?_; (exact Nat.le_trans (Nat.le_trans hB hbw2.size) (by first | with_reducible exact (Below.refl w3.heap.size w3).drew | with_reducible exact (ba w3 _).drew | with_reducible exact (bal (ba w3 _) _).drew : Below w3.heap.size w3 _).size); (exact HP.out.at hB (bt hbw2 (by first | with_reducible exact (Below.refl w3.heap.size w3).drew | with_reducible exact (ba w3 _).drew | with_reducible exact (bal (ba w3 _) _).drew))); rintro x4 w4 ⟨cv, rfl, hC4, hA4, hb4⟩; obtain ⟨ca, cc, hcv, _, _⟩ := hC4.slice; subst hcv; (first | (have kT : TwoB w4 w3.heap.size (.slice none 0 0) (.slice none 0 0) := (TwoB.new w3.drew (.slice none 0 0) (.slice none 0 0) 25 _ rfl).below hb4; obtain ⟨t1, t2, t3, t4, t5⟩ := kT) | (have kT : TwoB w4 w3.heap.size (.slice none 0 0) (.slice none 0 0) := ((TwoB.new w3.drew (.slice none 0 0) (.slice none 0 0) 25 _ rfl).below (ba _ _)).below hb4; obtain ⟨t1, t2, t3, t4, t5⟩ := kT) | (have kT : TwoB w4 (w3.heap.size + 1) (.slice none 0 0) (.slice none 0 0) := (TwoB.new (w3.drew.alloc _) (.slice none 0 0) (.slice none 0 0) 25 _ (by simp)).below hb4; obtain ⟨t1, t2, t3, t4, t5⟩ := kT) | skip)))
          · have hb : Below w3.heap.size w3 w4 := bt (Below.refl w3.heap.size w3).drew hb4
            have hs := hb.size
            have hA : Adr (fun b => w3.heap.size ≤ b ∧ b < w4.heap.size) (.slice ca l.length cc) := hA4.and (hC4.adr HNE.out)
            go_wp2
            go_meet
            exact ⟨_, _, _, rfl, TwoB.new _ _ _ _ _ (by simp), (hC4.at (Nat.le_refl _) (bal (ba w4 _) _)).mono (by simp; omega), hA.imp (fun b h => ⟨by omega, by omega, by simp [Value.ownBlock]; omega⟩), (rwr_made w4 _ tn htn hs).keep (ba _ _), by simp [Value.ownBlock], by omega, bal (bal hb _) _⟩
          · have hb : Below w3.heap.size w3 w4 := bt (Below.refl w3.heap.size w3).drew hb4
            have hs := hb.size
            have hA : Adr (fun b => w3.heap.size ≤ b ∧ b < w4.heap.size) (.slice ca l.length cc) := hA4.and (hC4.adr HNE.out)
            go_wp2
            go_meet
            have hR := rwr_made (w4.alloc (.cells #[.slice ca l.length cc, .slice (some ⟨w4.heap.size + 1, 0, none⟩) 0 tn] 25)) w3.heap.size tn htn (by simp; omega)
            rw [World.size_alloc] at hR
            exact ⟨_, _, _, rfl, (TwoB.new _ _ _ _ _ rfl).below (ba _ _), (hC4.at (Nat.le_refl _) (bal (ba w4 _) _)).mono (by simp; omega), hA.imp (fun b h => ⟨by omega, by omega, by simp [Value.ownBlock]; omega⟩), hR, by simp [Value.ownBlock], hs, bal (bal hb _) _⟩
          · have hb : Below w3.heap.size w3 w4 := bt (ba w3 _).drew hb4
            have hs := hb.size
            have hs4 := hb4.size
            have hA : Adr (fun b => w3.heap.size + 1 ≤ b ∧ b < w4.heap.size) (.slice ca l.length cc) := (hA4.imp fun b h => by simpa using h).and (hC4.adr HNE.out)
            have hR := ((rwr_made w3 w3.heap.size tn htn (Nat.le_refl _)).keep (Below.refl _ _).drew).keep hb4
            simp at hs4
            go_wp2
            go_meet
            exact ⟨_, _, _, rfl, TwoB.new _ _ _ _ _ rfl, (hC4.at (Nat.le_refl _) (ba w4 _)).mono (by simp), hA.imp (fun b h => ⟨by omega, by omega, by simp [Value.ownBlock]; omega⟩), hR.keep (ba _ _), by simp [Value.ownBlock]; omega, hs, bal hb _⟩
          · have hb : Below w3.heap.size w3 w4 := bt (bal (ba w3 _) _).drew hb4
            have hA : Adr (fun b => w3.heap.size + 2 ≤ b) (.slice ca l.length cc) := hA4.imp fun b h => by simpa using h
            have hR := (((rwr_made w3 w3.heap.size tn htn (Nat.le_refl _)).keep (ba _ _)).keep (Below.refl _ _).drew).keep hb4
            go_wp2
            go_meet
            exact ⟨_, _, _, rfl, made_put ⟨t1, t2, t3, t4, t5⟩ hC4 (hA.imp fun b h => ⟨by omega, by omega, by simp [Value.ownBlock]; omega⟩) hR (by simp [Value.ownBlock]) (by omega) hb⟩
          · have hb : Below w3.heap.size w3 w4 := bt (ba w3 _).drew hb4
            have hA : Adr (fun b => w3.heap.size + 1 ≤ b ∧ b < w4.heap.size) (.slice ca l.length cc) := (hA4.imp fun b h => by simpa using h).and (hC4.adr HNE.out)
            have hs4 := hb4.size
            simp at hs4
            go_wp2
            go_meet
            have hg : w4.grownBy ((w4.setCell ⟨w3.heap.size, 0, none⟩ (.slice ca l.length cc)).setCell ⟨w3.heap.size, 1, none⟩ (.slice (some ⟨w4.heap.size, 0, none⟩) 0 tn)) (some w3.heap.size) := gb_set (gb_set (gb_refl _ _) 0 _) 1 _
            have hT := (TwoB.mk t1 t2 t3 t4 t5).put (.slice ca l.length cc) (.slice (some ⟨w4.heap.size, 0, none⟩) 0 tn)
            have hC := hC4.gb hg (hA.imp fun b h => by simp; omega)
            have hb2 : Below w3.heap.size w3 ((w4.setCell ⟨w3.heap.size, 0, none⟩ (.slice ca l.length cc)).setCell ⟨w3.heap.size, 1, none⟩ (.slice (some ⟨w4.heap.size, 0, none⟩) 0 tn)) := bs (bs hb (Nat.le_refl _) _) (Nat.le_refl _) _
            have hR := rwr_made ((w4.setCell ⟨w3.heap.size, 0, none⟩ (.slice ca l.length cc)).setCell ⟨w3.heap.size, 1, none⟩ (.slice (some ⟨w4.heap.size, 0, none⟩) 0 tn)) w3.heap.size tn htn hb2.size
            have hz : ((w4.setCell ⟨w3.heap.size, 0, none⟩ (.slice ca l.length cc)).setCell ⟨w3.heap.size, 1, none⟩ (.slice (some ⟨w4.heap.size, 0, none⟩) 0 tn)).heap.size = w4.heap.size := by simp
            rw [hz] at hR
            exact ⟨_, _, _, rfl, hT.below (ba _ _), (hC.mono hg.size |>.at (Nat.le_refl _) (ba _ _)).mono (by simp), hA.imp (fun b h => ⟨by omega, by omega, by simp [Value.ownBlock]; omega⟩), hR, by simp [Value.ownBlock]; omega, Nat.le_refl _, bal hb2 _⟩
          · have hb : Below w3.heap.size w3 w4 := bt (bal (ba w3 _) _).drew hb4
            have hA : Adr (fun b => w3.heap.size + 2 ≤ b) (.slice ca l.length cc) := hA4.imp fun b h => by simpa using h
            have hR0 := rwr_made (w3.alloc (.cells #[.slice none 0 0, .slice none 0 0] 25)) w3.heap.size tn htn (by simp)
            rw [World.size_alloc] at hR0
            have hR := (hR0.keep (Below.refl _ _).drew).keep hb4
            go_wp2
            go_meet
            exact ⟨_, _, _, rfl, made_put ⟨t1, t2, t3, t4, t5⟩ hC4 (hA.imp fun b h => ⟨by omega, by omega, by simp [Value.ownBlock]; omega⟩) hR (by simp [Value.ownBlock]) (Nat.le_refl _) hb⟩
        case rest =>
          obtain ⟨T, cv, rv0, rfl, hM⟩ := hcut
          have HT0 : Hid (TwoB wc T cv rv0) := hM.1
          have HC0 : Hid (Cols wc wc.heap.size cv l) := hM.2.1
          have HA0 : Hid (Adr (fun b => w3.heap.size ≤ b ∧ b ≠ T ∧ rv0.ownBlock ≠ some b) cv) := hM.2.2.1
          have HR0 : Hid (Rwr wc w3.heap.size rv0 []) := hM.2.2.2.1
          have HN0 : Hid (rv0.ownBlock ≠ some T) := hM.2.2.2.2.1
          have hT3 : w3.heap.size ≤ T := hM.2.2.2.2.2.1
          have hbc : Below w3.heap.size w3 wc := hM.2.2.2.2.2.2
          have hTc : T < wc.heap.size := hM.1.lt
          clear hM hmk
          go_wp2
          go_loopw [40] (fun s wr => ∃ (i : Nat) (ms : List Rw) (rv : Value), s = .int .i64 (i : Int) ∧ i ≤ xs.length ∧ ms.length ≤ 4096 ∧ Hid (TwoB wr T cv rv) ∧ Hid (Cols wr wr.heap.size cv l) ∧ Hid (Adr (fun b => w3.heap.size ≤ b ∧ b ≠ T ∧ rv.ownBlock ≠ some b) cv) ∧ Hid (Rwr wr w3.heap.size rv ms) ∧ Hid (Som wc.heap.size ms) ∧ Hid (rv.ownBlock ≠ some T) ∧ Hid (rr ms = froR ((allT l).take i) (xs.take i)) ∧ Hid (togE (ms.length : Int) (xs.drop i) = 0) ∧ Below w3.heap.size w3 wr ∧ wc.heap.size ≤ wr.heap.size) (fun s _ => xs.length - (intOf s).toNat)
          case atStart => exact ⟨0, [], rv0, rfl, Nat.zero_le _, by simp, HT0, HC0, HA0, HR0, Som.nil _, HN0, rfl, by simpa [Hid] using HE.out, hbc, Nat.le_refl _⟩
          case round =>
            obtain ⟨i, ms, rv, rfl, hi, hm4, HT, HC, HA, HW, HM, HN, HF, HG, hbr, hzr⟩ := hrel
            obtain ⟨ra, rc, rfl⟩ := HW.out.slice
            have hbwr : Below w.heap.size w wr := bt hbw2 hbr
            by_cases hi1 : i < xs.length
            · obtain ⟨b2, o2, x, rfl, hb2, _, hg2, e1⟩ := HU.out.get hBi hbwr hi1
              have ST := togE_ok ((togE_step hg2).symm.trans HG.out)
              obtain ⟨q, rfl⟩ := Int.eq_ofNat_of_zero_le ST.1
              have hqle : ms.length + q ≤ 4096 := by have := ST.2.1; omega
              have HGN : Hid (togE ((ms.length : Int) + (q : Int)) (xs.drop (i + 1)) = 0) := ST.2.2
              obtain ⟨r, hr⟩ : ∃ r, Hid (cel l i = r) := ⟨_, rfl⟩
              have hil : i ≤ 4096 := by have := HLN.out; omega
              have HFN : Hid (froR ((allT l).take (i + 1)) (xs.take (i + 1)) = rr ms ++ List.replicate q r) := by
                rw [Hid, froR_step hg2 (allT_get (by rw [hn.out, ← HLN.out]; exact hi1)), HF.out, hr.out]; simp
              have hrl : Hid (r.length = l.length) := by rw [Hid, ← hr.out]; exact cel_len _ _
              clear ST hg2 HG HF
              go_wp2
              obtain ⟨wq, hwq⟩ : ∃ wq : World, wq = wr := ⟨_, rfl⟩
              subst hwq
              go_loopw [46] (fun s wr => ∃ (k : Nat) (ns : List Rw) (rv : Value), s = .int .i64 (k : Int) ∧ k ≤ q ∧ Hid (ns.length = ms.length + k) ∧ Hid (TwoB wr T cv rv) ∧ Hid (Cols wr wr.heap.size cv l) ∧ Hid (Adr (fun b => w3.heap.size ≤ b ∧ b ≠ T ∧ rv.ownBlock ≠ some b) cv) ∧ Hid (Rwr wr w3.heap.size rv ns) ∧ Hid (Som wc.heap.size ns) ∧ Hid (rv.ownBlock ≠ some T) ∧ Hid (rr ns = rr ms ++ List.replicate k r) ∧ Below w3.heap.size w3 wr ∧ wc.heap.size ≤ wr.heap.size) (fun s _ => q - (intOf s).toNat)
              case atStart => exact ⟨0, ms, _, rfl, Nat.zero_le _, rfl, HT, HC, HA, HW, HM, HN, by simp [Hid], hbr, hzr⟩
              case round =>
                obtain ⟨k, ns, rv, rfl, hk, hnl, HT2, HC2, HA2, HW2, HM2, HN2, HF2, hbr2, hzr2⟩ := hrel
                obtain ⟨na, ncp, rfl⟩ := HW2.out.slice
                have hn5 : ns.length ≤ 4096 := by have := hnl.out; omega
                have hbwr2 : Below w.heap.size w wr := bt hbw2 hbr2
                by_cases hk1 : k < q
                · have t1 := HT2.out.c1
                  have t3 := HT2.out.f1
                  have hTw : T < wr.heap.size := by omega
                  go_wp2_with fail
                  go_region_law (first
                      | (go_simp; go_at_call 33; refine (cell_any B _ l i _ ?_ ?_ HO.out.1 HO.out.2.1 hil r hr.out).mono ?_; (exact Nat.le_trans hB hbwr2.size); (exact HP.out.at hB hbwr2.drew); rintro x4 w5 ⟨he, hR5', hb5'⟩; obtain rfl : x4 = .returned (.slice (some ⟨wr.heap.size + 1, 0, none⟩) r.length r.length) := he; have hR5 : RowI w5 (wr.heap.size + 1) r := hR5'; have hb5 : Below wr.heap.size wr w5 := (bt (Below.refl wr.heap.size wr).drew hb5'); have k1 : w5.cell? ⟨T, 1, none⟩ = some (.slice na ns.length ncp) := (hb5.cell (p := ⟨T, 1, none⟩) hTw).trans t1; have k3 : w5.frozen? ⟨T, 1, none⟩ = false := (hb5.frozen (p := ⟨T, 1, none⟩) hTw).trans t3; have hs5 := hb5.size; have k5 : ∀ O, (w5.alloc O).cell? ⟨T, 1, none⟩ = some (.slice na ns.length ncp) := fun O => ((ba w5 O).cell (p := ⟨T, 1, none⟩) (show T < w5.heap.size by omega)).trans k1; have k6 : ∀ O, (w5.alloc O).frozen? ⟨T, 1, none⟩ = false := fun O => ((ba w5 O).frozen (p := ⟨T, 1, none⟩) (show T < w5.heap.size by omega)).trans k3; go_wp2_with fail)
                      | (refine step_append_lies _ rfl _ _ 23 rfl w3.heap.size 26 i26 (.slice none 0 0) 1 24 Try.underlying23 hi26 hz0 hz1 hz2 rfl (by decide) (.slice na ns.length ncp) ns.length (ns.map (·.1)) rfl ?_ ⟨w5.heap.size, 0, none⟩ 1 1 [.slice (some ⟨wr.heap.size + 1, 0, none⟩) r.length r.length] rfl rfl ?_ ?_ (by decide) ?_ ?_ ?_ (w5.heap.size + 1) ?_ ?_; (exact (HW2.out.keep (bal hb5 _)).1); (exact cell_one_new _ _ _); (intro u hu; simp at hu; subst hu; rfl); (simp [maxLen]; omega); (omega); (have := hbr2.size; simp; omega); (simp); intro g cap w6 hown hgrow hat hlt; have k7 : w6.cell? ⟨T, 1, none⟩ = some (.slice na ns.length ncp) := hgrow.cell (k5 _) (fun e => HN2.out e.symm); have k8 : w6.frozen? ⟨T, 1, none⟩ = false := (World.frozen?_of_block (w := w5.alloc (.cells #[.slice (some ⟨wr.heap.size + 1, 0, none⟩) r.length r.length] 26)) (a := ⟨T, 1, none⟩) (hgrow.block T (by simp; omega) (fun e => HN2.out e.symm))).trans (k6 _)))
                  all_goals
                    have hmore := more_row HNE.out HT2.out HC2.out HA2.out HW2.out HM2.out HN2.out hT3 hTc hzr2 hbr2 hR5 (by rw [hrl.out]; exact HO.out.1) hb5 hown hgrow hat
                    obtain ⟨M1, M2, M3, M4, M5, M6, M7, M8⟩ := hmore
                    have HL2 : Hid ((ns ++ [(.slice (some ⟨wr.heap.size + 1, 0, none⟩) r.length r.length, r)] : List Rw).length = ms.length + (k + 1)) := by have := hnl.out; show _ = _; simp; omega
                    have HF5 : Hid (rr (ns ++ [(.slice (some ⟨wr.heap.size + 1, 0, none⟩) r.length r.length, r)]) = rr ms ++ List.replicate (k + 1) r) := by
                      rw [Hid, rr_snoc, HF2.out, List.append_assoc, ← List.replicate_succ']
                    obtain ⟨W8, hW8⟩ : ∃ W8, w6.setCell ⟨T, 1, none⟩ (.slice (some ⟨g, 0, none⟩) (ns.length + 1) cap) = W8 := ⟨_, rfl⟩
                    rw [hW8] at M1 M2 M4 M7 M8 ⊢
                    have HQ1 : Hid (TwoB W8 T cv (.slice (some ⟨g, 0, none⟩) (ns.length + 1) cap) ∧ Cols W8 W8.heap.size cv l ∧ Rwr W8 w3.heap.size (.slice (some ⟨g, 0, none⟩) (ns.length + 1) cap) (ns ++ [(.slice (some ⟨wr.heap.size + 1, 0, none⟩) r.length r.length, r)])) := ⟨M1, M2, M4⟩
                    have HQ2 : Hid (Adr (fun b => w3.heap.size ≤ b ∧ b ≠ T ∧ (Value.slice (some ⟨g, 0, none⟩) (ns.length + 1) cap).ownBlock ≠ some b) cv ∧ Som wc.heap.size (ns ++ [(.slice (some ⟨wr.heap.size + 1, 0, none⟩) r.length r.length, r)]) ∧ (Value.slice (some ⟨g, 0, none⟩) (ns.length + 1) cap).ownBlock ≠ some T) := ⟨M3, M5, M6⟩
                    clear M1 M2 M3 M4 M5 M6 hW8 k1 k3 k5 k6 k7 k8 hown hgrow hat hlt hb5 hb5' hR5 hR5' t1 t3
                    go_wp2
                    go_roundw
                    case rel => exact ⟨k + 1, (ns ++ [((Value.slice (some ⟨wr.heap.size + 1, 0, none⟩) r.length r.length, r) : Rw)] : List Rw), _, by go_num, hk1, HL2, HQ1.out.1, HQ1.out.2.1, HQ2.out.1, HQ1.out.2.2, HQ2.out.2.1, HQ2.out.2.2, HF5, M7, M8⟩
                    case measure => simp [intOf]; omega
                · obtain rfl : k = q := by omega
                  go_wp2
                  go_roundw
                  case rel => exact ⟨i + 1, ns, _, by go_num, hi1, hn5, HT2, HC2, HA2, HW2, HM2, HN2, by rw [Hid, HFN.out, HF2.out], by rw [Hid, hnl.out]; simpa using HGN.out, hbr2, hzr2⟩
                  case measure => simp [intOf]; omega
            · have HFF : Hid (rr ms = rs) := by
                rw [Hid, ← H2.out, froT, H3.out, if_pos rfl, HF.out, List.take_of_length_le (by rw [allT_len, hn.out]; have := HLN.out; omega), List.take_of_length_le (by omega)]
              obtain rfl : l = lc := by rw [← H1.out, froC, H3.out, if_pos rfl]
              have t0 := HT.out.c0
              have t1 := HT.out.c1
              have hs3 := hbw2.size
              have HRr : Hid (TwoB wr w.heap.size (.slice none 0 0) (.slice none 0 0)) := HR2.out.below hbr
              have v0 := HRr.out.c0
              have v1 := HRr.out.c1
              have v2 := HRr.out.f0
              have v3 := HRr.out.f1
              obtain ⟨W7, hW7⟩ : ∃ W7, (wr.setCell ⟨w.heap.size, 0, none⟩ cv).setCell ⟨w.heap.size, 1, none⟩ (.slice ra ms.length rc) = W7 := ⟨_, rfl⟩
              have hg7 : wr.grownBy W7 (some w.heap.size) := by rw [← hW7]; exact gb_set (gb_set (gb_refl _ _) 0 _) 1 _
              have HRV : Rwr W7 w3.heap.size (.slice ra ms.length rc) ms := by rw [← hW7]; exact (HW.out.set (by omega) (HM.out.mono (by omega)) _).set (by omega) (HM.out.mono (by omega)) _
              have HCV : Cols W7 W7.heap.size cv l := (HC.out.gb hg7 (HA.out.imp fun b h => by simp; omega)).mono hg7.size
              have hrne : ∀ t ∈ ms, t.2 ≠ [] := by
                intro t ht h0
                have h1 : t.2 ∈ rr ms := List.mem_map_of_mem (f := fun t : Rw => t.2) ht
                rw [HF.out] at h1
                have h2 := (allT_mem HO.out.2.1 (List.mem_of_mem_take (froR_mem h1))).len
                rw [h0] at h2
                exact HNE.out (List.length_eq_zero_iff.1 h2.symm)
              have HAV : AdrR (fun b => w.heap.size ≤ b ∧ b < W7.heap.size) (.slice ra ms.length rc) ms := ((HRV.adr (HM.out.mono (by omega))).imp fun b h => by omega).and (HRV.adrlt hrne)
              have HZ := HRr.out.put cv (.slice ra ms.length rc)
              have hb7 : Below w.heap.size w W7 := by rw [← hW7]; exact bs (bs hbwr (Nat.le_refl _) _) (Nat.le_refl _) _
              rw [hW7] at HZ
              obtain ⟨ca, cc, hcv, _, _⟩ := HC.out.slice
              have HRES : Hid (FromN l rs 0 w (.returned (.tuple #[.agg #[cv, .slice ra ms.length rc], .int .i64 0])) W7) := ⟨_, _, ms, rfl, HCV, HRV.rws (by omega), HFF.out, (HA.out.and (HCV.adr HNE.out)).imp (fun b h => by omega), HAV, hb7⟩
              have HZ7 : Hid (W7.cell? ⟨w.heap.size, 0, none⟩ = some cv ∧ W7.cell? ⟨w.heap.size, 1, none⟩ = some (.slice ra ms.length rc)) := ⟨HZ.c0, HZ.c1⟩
              have HW7 : Hid ((wr.setCell ⟨w.heap.size, 0, none⟩ cv).setCell ⟨w.heap.size, 1, none⟩ (.slice ra ms.length rc) = W7) := hW7
              clear HZ HRV HCV HAV hW7 hg7 hb7
              subst hcv
              go_wp2
              rw [HW7.out]
              exact bodyPost_ret (v := .tuple #[.agg #[.slice ca l.length cc, .slice ra ms.length rc], .int .i64 0]) (by simp [results, Try.results13, go_sem, HZ7.out.1, HZ7.out.2]) rfl HRES.out
      · have hne : (er != 0) = true := by simpa using hr0
        obtain ⟨rfl, rfl⟩ : [] = lc ∧ [] = rs := by rw [← H1.out, ← H2.out]; have := froE_no H3.out hr0; exact ⟨this.1.symm, this.2.symm⟩
        have t0 := HR2.out.c0
        have t1 := HR2.out.c1
        have t2 := HR2.out.f0
        have t3 := HR2.out.f1
        go_wp2
        obtain ⟨W7, hW7⟩ : ∃ W7, (w3.setCell ⟨w.heap.size, 0, none⟩ (.slice none 0 0)).setCell ⟨w.heap.size, 1, none⟩ (.slice none 0 0) = W7 := ⟨_, rfl⟩
        have HZ := HR2.out.put (.slice none 0 0) (.slice none 0 0)
        rw [hW7] at HZ
        have hb7 : Below w.heap.size w W7 := by rw [← hW7]; exact bs (bs hbw2 (Nat.le_refl _) _) (Nat.le_refl _) _
        rw [hW7]
        exact bodyPost_ret (v := .tuple #[.agg #[.slice none 0 0, .slice none 0 0], .int .i64 er]) (by simp [results, Try.results13, go_sem, HZ.c0, HZ.c1]) rfl ⟨_, _, [], rfl, cols_nil _ _, rws_nil _ _, rfl, adr_nil _, ⟨adr_nil _, by simp⟩, hb7⟩
    · have hle : ((xs.length : Int) != (n : Int)) = true := by simp; omega
      obtain rfl : 8 = er := by rw [← H3.out, froE, if_pos hec.out, if_neg (by rw [hn.out]; exact hlen)]
      obtain ⟨rfl, rfl⟩ : [] = lc ∧ [] = rs := by rw [← H1.out, ← H2.out]; have := froE_no H3.out (by decide); exact ⟨this.1.symm, this.2.symm⟩
      have t0 := HR2.out.c0
      have t1 := HR2.out.c1
      have t2 := HR2.out.f0
      have t3 := HR2.out.f1
      go_wp2
      obtain ⟨W7, hW7⟩ : ∃ W7, (w2.setCell ⟨w.heap.size, 0, none⟩ (.slice none 0 0)).setCell ⟨w.heap.size, 1, none⟩ (.slice none 0 0) = W7 := ⟨_, rfl⟩
      have HZ := HR2.out.put (.slice none 0 0) (.slice none 0 0)
      rw [hW7] at HZ
      have hb7 : Below w.heap.size w W7 := by rw [← hW7]; exact bs (bs hbw2 (Nat.le_refl _) _) (Nat.le_refl _) _
      rw [hW7]
      exact bodyPost_ret (v := .tuple #[.agg #[.slice none 0 0, .slice none 0 0], .int .i64 8]) (by simp [results, Try.results13, go_sem, HZ.c0, HZ.c1]) rfl ⟨_, _, [], rfl, cols_nil _ _, rws_nil _ _, rfl, adr_nil _, ⟨adr_nil _, by simp⟩, hb7⟩
  · have hne : (ec != 0) = true := by simpa using he0
    obtain rfl : ec = er := by rw [← H3.out, froE, hec.out, if_neg he0]
    obtain ⟨rfl, rfl⟩ : [] = lc ∧ [] = rs := by rw [← H1.out, ← H2.out]; have := froE_no H3.out he0; exact ⟨this.1.symm, this.2.symm⟩
    have t0 := HR1.out.c0
    have t1 := HR1.out.c1
    have t2 := HR1.out.f0
    have t3 := HR1.out.f1
    go_wp2
    obtain ⟨W7, hW7⟩ : ∃ W7, (w1.setCell ⟨w.heap.size, 0, none⟩ (.slice none 0 0)).setCell ⟨w.heap.size, 1, none⟩ (.slice none 0 0) = W7 := ⟨_, rfl⟩
    have HZ := HR1.out.put (.slice none 0 0) (.slice none 0 0)
    rw [hW7] at HZ
    have hb7 : Below w.heap.size w W7 := by rw [← hW7]; exact bs (bs hbw1 (Nat.le_refl _) _) (Nat.le_refl _) _
    rw [hW7]
    exact bodyPost_ret (v := .tuple #[.agg #[.slice none 0 0, .slice none 0 0], .int .i64 ec]) (by simp [results, Try.results13, go_sem, HZ.c0, HZ.c1]) rfl ⟨_, _, [], rfl, cols_nil _ _, rws_nil _ _, rfl, adr_nil _, ⟨adr_nil _, by simp⟩, hb7⟩
end Go.Proofs.Ytkpjjiomfgkobaa
