import Derived.Test.YtkpjjiomfgkobaaDoorCnt
import Derived.Test.YtkpjjiomfgkobaaDoorTxt
import Derived.Test.YtkpjjiomfgkobaaDoorShelf
import Derived.Lib.AppendIntMem
import Derived.Laws.Concat
import Derived.Deep.RegionHeld3
namespace Go.Proofs.YtkpjjiomfgkobaaDoor
open Go.RowKit Go.Proofs.YtkpjjiomfgkobaaDoor.Ds

/-- the table of powers reads so, whatever is done from B on -/
def PT (B : Nat) (w : World) : Prop := Lib.TabBelow Tryd.prog B w "internal/strconv.uint64pow10" .u64 Lib.pow10Tab
theorem PT.on {B : Nat} {w w' : World} (h : PT B w) (hb : Below B w w') : PT B w' := Lib.TabBelow.on h hb
theorem PT.mono {B B' : Nat} {w : World} (h : PT B w) (hb : B ≤ B') : PT B' w := fun w' k => h w' (k.mono hb)
theorem PT.at {B : Nat} {w w' : World} (h : PT B w) (hB : B ≤ w.heap.size) (hb : Below w.heap.size w w') : PT B w' := h.on (hb.mono hB)

/-- a text as bytes -/
def tx (l : List UInt8) : ByteArray := ⟨l.toArray⟩
theorem tx_list (l : List UInt8) : (tx l).data.toList = l := by simp [tx]
theorem tx_size (l : List UInt8) : (tx l).size = l.length := by simp [tx, ByteArray.size]
theorem tx_of (s : ByteArray) : tx s.data.toList = s := by simp [tx]
theorem tx_app (l m : List UInt8) : tx l ++ tx m = tx (l ++ m) := by
  apply ByteArray.ext
  simp [tx]

theorem cat_run (a b : ByteArray) (h : a.size + b.size ≤ 9223372036854775807) (u : World) : (binOp .add 9 (.string a) (.string b)).run Tryd.prog u = .ok (.string (a ++ b)) u := by
  rw [binOp_string_add]; exact run_string_add_sum u a b h
theorem itoa_any (B : Nat) (v : Int) (h0 : 0 ≤ v) (h1 : v ≤ 4096) (w : World) (hpt : PT B w) :
    Calls Tryd.prog 16 #[.int .i64 v] w fun e w' => e = .returned (.string (tx (Lib.itoa v))) ∧ Below w.heap.size w w' := by
  refine (Tryd.strconv_Itoa v (by omega) (by omega) w hpt.here).mono ?_
  rintro e w' ⟨rfl, k, os, rfl⟩
  exact ⟨rfl, Lib.below_grow _ _ (Nat.le_refl _) _ _⟩

theorem wordC_any (B : Nat) (nm : ByteArray) (sz : Int) (h0 : 0 ≤ sz) (h1 : sz ≤ 4096) (hn : nm.size ≤ 32) (w : World) (hB : B ≤ w.heap.size) (hpt : PT B w) :
    Calls Tryd.prog 15 #[.agg #[.string nm, .int .i64 sz]] w fun e w' => e = .returned (.string (tx (wordC (nm, sz)))) ∧ Below w.heap.size w w' := by
  have HPT : Hid (PT B w) := hpt
  have hl := itoa_len h0 h1
  have d0 : (w.alloc (.cells #[.string nm, .int .i64 sz] 52)).cell? ⟨w.heap.size, 0, none⟩ = some (.string nm) := nc _ _ 0 _ rfl rfl
  have d1 : (w.alloc (.cells #[.string nm, .int .i64 sz] 52)).cell? ⟨w.heap.size, 1, none⟩ = some (.int .i64 sz) := nc _ _ 1 _ rfl rfl
  have HE : Hid (nm ++ { data := #[58] } ++ tx (Lib.itoa sz) = tx (wordC (nm, sz))) := by
    show nm ++ tx [58] ++ tx (Lib.itoa sz) = _
    rw [← tx_of nm, tx_app, tx_app, tx_of]; simp [wordC]
  have hz : (tx (Lib.itoa sz)).size ≤ 4097 := by rw [tx_size]; exact hl
  have z1 : ¬ (9223372036854775807 < nm.size + 1) := by omega
  have z2 : ¬ (9223372036854775807 < nm.size + 1 + (tx (Lib.itoa sz)).size) := by omega
  clear hpt
  obtain ⟨W, hW⟩ : ∃ W, w.alloc (.cells #[.string nm, .int .i64 sz] 52) = W := ⟨_, rfl⟩
  have hbW : Below w.heap.size w W := hW ▸ ba _ _
  have hzW : w.heap.size < W.heap.size := by rw [← hW]; simp
  go_enter Tryd.func15, Tryd.ntmps15
  go_wp2_with fail
  rw [hW] at d0 d1
  go_region_held3 (fun w' => w'.cell? ⟨w.heap.size, 0, none⟩ = some (.string nm) ∧ w'.cell? ⟨w.heap.size, 1, none⟩ = some (.int .i64 sz))
    ((go_split_ands; refine ⟨?_, ?_⟩ <;> first | assumption | (simp [go_sem, *]; done)))
    ((go_at_call 16; refine (itoa_any B sz h0 h1 _ ?_).mono ?_; (exact HPT.out.at hB (bt hbW (Below.refl _ _).drew)); rintro x1 w1 ⟨rfl, hb1⟩; have k1 : w1.cell? ⟨w.heap.size, 0, none⟩ = some (.string nm) := (hb1.cell (p := ⟨w.heap.size, 0, none⟩) hzW).trans d0; have k2 : w1.cell? ⟨w.heap.size, 1, none⟩ = some (.int .i64 sz) := (hb1.cell (p := ⟨w.heap.size, 1, none⟩) hzW).trans d1))
  go_wp2
  go_ret
  exact ⟨by rw [HE.out]; rfl, bt hbW.drew hb1⟩

/-- a row of texts that may be written -/
structure RowS (w : World) (g : Nat) (xs : List ByteArray) : Prop where
  cells : ∀ i x, xs[i]? = some x → w.cell? ⟨g, i, none⟩ = some (.string x)
  thaw : ∀ i, i < xs.length → w.frozen? ⟨g, i, none⟩ = false
  lt : g < w.heap.size
theorem RowS.keep {w w' : World} {g N : Nat} {xs : List ByteArray} (h : RowS w g xs) (hb : Below N w w') (hg : g < N) : RowS w' g xs :=
  ⟨fun i x hi => (hb.cell (p := ⟨g, i, none⟩) hg).trans (h.cells i x hi), fun i hi => (hb.frozen (p := ⟨g, i, none⟩) hg).trans (h.thaw i hi), Nat.lt_of_lt_of_le h.lt hb.size⟩
theorem RowS.set {w : World} {g : Nat} {xs : List ByteArray} (h : RowS w g xs) (i : Nat) (k : ByteArray) : RowS (w.setCell ⟨g, i, none⟩ (.string k)) g (xs.set i k) := by
  refine ⟨fun j x hj => ?_, fun j hj => by rw [sc_frozen]; exact h.thaw j (by simpa using hj), by simpa using h.lt⟩
  by_cases e : i = j
  · subst e
    have hi : i < xs.length := by have := (List.getElem?_eq_some_iff.1 hj).1; simpa using this
    rw [List.getElem?_set_self hi] at hj
    obtain rfl : k = x := by simpa using hj
    obtain ⟨y, hy⟩ := get_lt hi
    exact sc_same (h.cells i y hy)
  · rw [List.getElem?_set_ne e] at hj
    rw [sc_other (fun h => e (congrArg Addr.off h))]
    exact h.cells j x hj
theorem RowS.made (w : World) (n : Nat) : RowS (w.alloc (.cells (madeCells #[.string ByteArray.empty] n) 9)) w.heap.size (List.replicate n ByteArray.empty) := by
  refine ⟨fun i x hi => ?_, fun i _ => World.frozen?_alloc_at _ _ _ _ rfl, by simp⟩
  have h1 : i < n := by have := (List.getElem?_eq_some_iff.1 hi).1; simpa using this
  obtain rfl : x = ByteArray.empty := by
    have := (List.getElem?_eq_some_iff.1 hi).2; simp at this; exact this.symm
  rw [World.cell?_alloc_at _ _ _ _ rfl]
  simp [madeCells, h1, Nat.mod_one]
theorem info9 : (Tryd.prog.info? 9).map (fun i => (i.zero, i.size, i.bytes)) = some (some (.string ByteArray.empty), 1, 16) := by kernel_rfl
theorem make_strs (n : Nat) (hn : n ≤ 1073741824) (u : World) : (Instr.makeSlice 78 (.int .i64 (n : Int)) (.int .i64 (n : Int))).run Tryd.prog u =
    .ok (.slice (some ⟨u.heap.size, 0, none⟩) n n) (u.alloc (.cells (madeCells #[.string ByteArray.empty] n) 9)) := by
  obtain ⟨i0, hi, hz0, hz1, hz2⟩ := info_parts info9
  have h := run_make (P := Tryd.prog) u 78 9 i0 (.string ByteArray.empty) Tryd.underlying78 hi hz0 .i64 .i64 (n : Int) (n : Int) (by omega) (Int.le_refl _) (by rw [hz2]; omega) (by omega)
  rw [Int.toNat_natCast] at h
  simpa [hz1, Value.cells] using h
/-- the words so far, and nothing behind them -/
def wrS (ws : List (List UInt8)) (n i : Nat) : List ByteArray := (ws.take i).map tx ++ List.replicate (n - i) ByteArray.empty
theorem wrS_len {ws : List (List UInt8)} {n i : Nat} (hl : ws.length = n) (hi : i ≤ n) : (wrS ws n i).length = n := by
  simp [wrS]; omega
theorem wrS_zero (ws : List (List UInt8)) (n : Nat) : wrS ws n 0 = List.replicate n ByteArray.empty := by simp [wrS]
theorem wrS_all {ws : List (List UInt8)} {n : Nat} (hl : ws.length = n) : wrS ws n n = ws.map tx := by simp [wrS, ← hl]
theorem wrS_set {ws : List (List UInt8)} {n i : Nat} (hl : ws.length = n) {x : List UInt8} (h : ws[i]? = some x) : (wrS ws n i).set i (tx x) = wrS ws n (i + 1) := by
  have hi : i < ws.length := (List.getElem?_eq_some_iff.1 h).1
  apply List.ext_getElem?
  intro j
  simp only [wrS]
  rw [List.getElem?_set]
  simp only [List.length_append, List.length_map, List.length_take, List.length_replicate, List.getElem?_append, List.getElem?_map, List.getElem?_take, List.getElem?_replicate]
  by_cases e : i = j
  · subst e
    rw [if_pos rfl, if_pos (by omega), if_pos (by omega), if_pos (by omega), h]; rfl
  · rw [if_neg e]
    by_cases h1 : j < i
    · rw [if_pos (by omega), if_pos h1, if_pos (by omega), if_pos (by omega)]
    · have q1 : ¬ j < min i ws.length := by omega
      have q2 : ¬ j < min (i + 1) ws.length := by omega
      rw [if_neg q1, if_neg q2]
      have e2 : (j - min i ws.length < n - i) ↔ (j - min (i + 1) ws.length < n - (i + 1)) := by omega
      by_cases h3 : j - min i ws.length < n - i
      · rw [if_pos h3, if_pos (e2.1 h3)]
      · rw [if_neg h3, if_neg (fun h => h3 (e2.2 h))]
theorem tx_lists (ws : List (List UInt8)) : (ws.map tx).map (·.data.toList) = ws := by
  rw [List.map_map]
  conv => rhs; rw [← List.map_id ws]
  exact List.map_congr_left fun a _ => tx_list a

set_option maxHeartbeats 1000000 in
theorem lineC_any (B : Nat) (v : Value) (l : List Col) (w : World) (hB : B ≤ w.heap.size) (hp : Cols w B v l) (hpt : PT B w) (h6 : l.length ≤ 6) (h1 : 1 ≤ l.length) (hs : Szs l) (hn : Nms l) (t : List UInt8) (ht : lineT (l.map wordC) = t) :
    Calls Tryd.prog 14 #[v, .func (.func 15) #[] #[]] w fun e w' => e = .returned (.string (tx t)) ∧ Below w.heap.size w w' := by
  have HP : Hid (Cols w B v l) := hp
  have HPT : Hid (PT B w) := hpt
  have HS : Hid (Szs l) := hs
  have HN : Hid (Nms l) := hn
  have HT : Hid (lineT (l.map wordC) = t) := ht
  obtain ⟨a, c, rfl, hc, hl⟩ := hp.slice
  clear hpt hs hn ht
  have hmk := make_strs l.length (by omega)
  go_enter Tryd.func14, Tryd.ntmps14
  go_wp2
  go_loopw [13] (fun s wr => ∃ (i : Nat), s = .int .i64 (i : Int) ∧ i ≤ l.length ∧ Hid (RowS wr w.heap.size (wrS (l.map wordC) l.length i)) ∧ Below w.heap.size w wr) (fun s _ => l.length - (intOf s).toNat)
  case atStart => exact ⟨0, rfl, Nat.zero_le _, by show RowS _ _ _; rw [wrS_zero]; exact RowS.made _ _, ba _ _⟩
  case round =>
    obtain ⟨i, rfl, hi, HI, hbl⟩ := hrel
    by_cases hil : i < l.length
    · obtain ⟨b, o, nm, sz, rfl, hb, hg, c1, c2, hnm⟩ := HP.out.get hB hbl hil
      have hsz := HS.out _ (List.mem_of_getElem? hg)
      have hnn : nm.size ≤ 32 := by
        have := HN.out _ (List.mem_of_getElem? hg)
        simp only [namB, Bool.and_eq_true, decide_eq_true_eq] at this
        have h2 := this.1.2
        have e : nm.data.toList.length = nm.size := by simp
        omega
      simp only at hsz
      have HG : Hid ((l.map wordC)[i]? = some (wordC (nm, sz))) := by show _ = _; rw [List.getElem?_map, hg]; rfl
      have hz0 := hbl.size
      have hgz : w.heap.size < wr.heap.size := HI.out.lt
      clear hg
      go_wp2_with fail
      refine (wordC_any B nm sz (by omega) hsz.2 hnn _ (by simp; omega) (HPT.out.at hB (bal hbl _))).mono ?_
      rintro e w1 ⟨rfl, hb1⟩
      have hb2 : Below wr.heap.size wr w1 := bt (ba _ _) hb1
      have HR1 : Hid (RowS w1 w.heap.size (wrS (l.map wordC) l.length i)) := HI.out.keep hb2 hgz
      have hlw : (wrS (l.map wordC) l.length i).length = l.length := wrS_len (by simp) hi
      obtain ⟨y, hy⟩ := get_lt (l := wrS (l.map wordC) l.length i) (i := i) (by rw [hlw]; exact hil)
      have p1 := HR1.out.cells i y hy
      have p2 := HR1.out.thaw i (by rw [hlw]; exact hil)
      have zk : (i : Int) < (l.length : Int) := by omega
      have hbl1 : Below w.heap.size w w1 := bt hbl hb2
      clear hy hlw hb1
      go_wp2
      go_roundw
      case rel =>
        refine ⟨i + 1, by go_num, hil, ?_, bs hbl1 (p := ⟨w.heap.size, i, none⟩) (Nat.le_refl _) _⟩
        show RowS _ _ _
        rw [← wrS_set (by simp) HG.out]
        exact HR1.out.set i _
      case measure => simp [intOf]; omega
    · have HF : Hid (RowS wr w.heap.size ((l.map wordC).map tx)) := by
        have := HI.out
        rwa [show i = l.length by omega, wrS_all (by simp)] at this
      have hjl : Hid ((Lib.join (l.map wordC) [32]).length ≤ 24787) := by
        have := lineC_len HN.out HS.out h6
        simp only [lineT, List.length_append] at this
        show _ ≤ _
        omega
      have hz : (tx (Lib.join (l.map wordC) [32])).size ≤ 24787 := by rw [tx_size]; exact hjl.out
      have z1 : ¬ (9223372036854775807 < (tx (Lib.join (l.map wordC) [32])).size + 1) := by omega
      have HE : Hid (tx (Lib.join (l.map wordC) [32]) ++ { data := #[10] } = tx t) := by
        show tx _ ++ tx [10] = _
        rw [tx_app, ← HT.out, lineT]
      have kj := Tryd.strings_Join w.heap.size 0 l.length ((l.map wordC).map tx) (tx [32]) wr (fun j x hj => by rw [Nat.zero_add]; exact HF.out.cells j x hj) HF.out.lt (by simp; omega) (by simp) (by rw [tx_lists, tx_list]; have := hjl.out; omega)
      rw [tx_lists, tx_list, List.length_map, List.length_map] at kj
      go_wp2_with fail
      refine kj.mono ?_
      rintro e w1 ⟨rfl, hb1⟩
      clear kj
      go_wp2
      go_ret
      exact ⟨by rw [← HE.out]; rfl, bt hbl hb1⟩
end Go.Proofs.YtkpjjiomfgkobaaDoor
