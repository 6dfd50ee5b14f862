import Derived.Test.YtnoedkebmpfagaaWsx
/-
  WireCrumbs: HOWEVER A STREAM IS BROKEN UP: the walk of the law.
-/
namespace Go.Proofs.Ytnoedkebmpfagaa
open Go.RowKit Wc

theorem frmL_app : ∀ (a b : List By), frmL (a ++ b) = frmL a ++ frmL b
  | [], b => by simp [frmL]
  | x :: a, b => by
    by_cases h : okB x = true
    · simp [frmL, h, frmL_app a b]
    · simp [frmL, h, frmL_app a b]
theorem frmL_take (l : List By) (i : Nat) : (frmL (l.take i)).length ≤ (frmL l).length := by
  have : frmL l = frmL (l.take i) ++ frmL (l.drop i) := by rw [← frmL_app, List.take_append_drop]
  rw [this, List.length_append]; omega
theorem mem_flat {l : List By} {s : By} (h : s ∈ l) : s.length ≤ l.flatten.length := by
  induction l with
  | nil => cases h
  | cons x l ih =>
    rw [List.flatten_cons, List.length_append]
    rcases List.mem_cons.1 h with rfl | h
    · omega
    · have := ih h; omega
theorem flat_take (l : List (List By)) (k : Nat) : (l.take k).flatten.length ≤ l.flatten.length := by
  have : l.flatten = (l.take k).flatten ++ (l.drop k).flatten := by rw [← List.flatten_append, List.take_append_drop]
  rw [this, List.length_append]; omega
theorem frm_yes {x : By} (h : okB x = true) : frmT x = (hd4 x.length ++ x, 0) := by
  unfold frmT
  rw [if_pos (by simpa [okB] using h)]
theorem frm_no {x : By} (h : ¬ okB x = true) : frmT x = ([], 3) := by
  unfold frmT
  rw [if_neg (by simpa [okB] using h)]
set_option maxHeartbeats 4000000 in
set_option maxRecDepth 100000 in
theorem wireCrumbs_walk (bv : Value) (bodies : List By) (cv : Value) (cuts : List Int) (w : World) (h1 : Stl w w.heap.size bv bodies) (h2 : Num w w.heap.size cv cuts)
    (hb1 : bodies.length ≤ 1073741824) (hb2 : cuts.length ≤ 1073741824) (hb3 : (frmL bodies).length ≤ 549755813888) (hb4 : ∀ b ∈ bodies, b.length ≤ 549755813888) :
    Calls Try.prog 6 #[bv, cv] w fun e w' => e = .returned (.bool true) ∧ Below w.heap.size w w' := by
  obtain ⟨ba', bc', rfl, hbc, -⟩ := h1.slice
  obtain ⟨ca', cc', rfl, hcc, -⟩ := h2.slice
  have H1 : Hid (Stl w w.heap.size (.slice ba' bodies.length bc') bodies) := h1
  have H2 : Hid (Num w w.heap.size (.slice ca' cuts.length cc') cuts) := h2
  have H3 : Hid ((frmL bodies).length ≤ 549755813888) := hb3
  have H4 : Hid (∀ b ∈ bodies, b.length ≤ 549755813888) := hb4
  have ka := alive_any w
  clear h1 h2 hb3 hb4
  go_enter Try.func6, Try.ntmps6
  go_wp2_with fail
  refine ka.mono ?_
  rintro e w1 ⟨rfl, b1⟩
  clear ka
  have HB1 : Hid (Below w.heap.size w w1) := b1
  clear b1
  go_wp2_with fail
  go_loopw [21, 5, 6] (fun iv av wv wr => ∃ (i : Nat) (wa : Option Addr) (wc : Nat), iv = .int .i64 (i : Int) ∧ av = .string (tx (frmL (bodies.take i))) ∧ wv = .slice wa ((bodies.take i).filter okB).length wc ∧ i ≤ bodies.length ∧ Hid (RowS wr w.heap.size (.slice wa ((bodies.take i).filter okB).length wc) ((bodies.take i).filter okB)) ∧ Hid (Below w.heap.size w wr)) (fun iv _ _ _ => bodies.length - (intOf iv).toNat)
  case atStart => exact ⟨0, none, 0, rfl, rfl, rfl, Nat.zero_le _, ⟨rfl, .inl ⟨rfl, rfl⟩⟩, HB1⟩
  case round =>
    obtain ⟨i, wa, wc, rfl, rfl, rfl, hi, HW, HB⟩ := hrel
    have hbz := HB.out.size
    by_cases c1 : i < bodies.length
    · have z1 : (i : Int) < (bodies.length : Int) := by omega
      obtain ⟨b', o, c', x, e1, _, _, hxx, hcx⟩ := (H1.out.keep HB.out).get (i := i) c1
      simp only [Value.slice.injEq] at e1
      obtain ⟨rfl, -, rfl⟩ := e1
      have hxl := H4.out x (List.mem_of_getElem? hxx)
      have et : bodies.take (i + 1) = bodies.take i ++ [x] := by rw [List.take_add_one, hxx]; rfl
      by_cases c2 : okB x = true
      · have k := frame_any x (by omega) wr _ _ (frm_yes c2)
        have HE : Hid (frmL (bodies.take (i + 1)) = frmL (bodies.take i) ++ (hd4 x.length ++ x) ∧ (bodies.take (i + 1)).filter okB = (bodies.take i).filter okB ++ [x]) := by
          rw [Hid, et, frmL_app, List.filter_append]
          simp [frmL, c2]
        have hFl : (frmL (bodies.take i)).length ≤ 549755813888 := Nat.le_trans (frmL_take _ _) H3.out
        have hfl : ((bodies.take i).filter okB).length ≤ 1073741824 := Nat.le_trans (List.length_filter_le _ _) (by simp; omega)
        have hadd := tx_add (frmL (bodies.take i)) (hd4 x.length ++ x)
        have hlen : ¬ (9223372036854775807 < (frmL (bodies.take i)).length + (hd4 x.length ++ x).length) := by
          simp only [List.length_append, hd4_len]; omega
        generalize hFF : hd4 x.length ++ x = FF at *
        obtain ⟨A, hA⟩ : ∃ A, frmL (bodies.take i) = A := ⟨_, rfl⟩
        obtain ⟨K, hK⟩ : ∃ K, (bodies.take i).filter okB = K := ⟨_, rfl⟩
        rw [hA] at hadd hlen hFl HE ⊢
        rw [hK] at hfl HE HW ⊢
        clear hFF hA hK et hxx
        go_wp2_with fail
        refine k.mono ?_
        rintro e w2 ⟨rfl, b2⟩
        clear k hcx
        have bA : Below w2.heap.size w2 (w2.alloc (.cells #[.string (tx x)] 9)) := ba _ _
        have bT : Below wr.heap.size wr (w2.alloc (.cells #[.string (tx x)] 9)) := bt b2 bA
        have hS : Stl (w2.alloc (.cells #[.string (tx x)] 9)) (w2.heap.size + 1) (.slice (some ⟨w2.heap.size, 0, none⟩) 1 1) [x] := ⟨_, _, rfl, by simp, by simp, fun _ => ⟨w2.heap.size, 0, rfl, by omega, fun j s hj => by
          have hj0 : j = 0 := by have := (List.getElem?_eq_some_iff.1 hj).1; simp at this; omega
          subst hj0
          simp only [List.getElem?_cons_zero, Option.some.injEq] at hj
          subst hj
          exact nc _ _ 0 _ rfl rfl⟩⟩
        obtain ⟨v', w5, hr, hR5, hg5, -⟩ := run_appS (row_gb HW.out (gb_none bT) (by simp)) 35 hS (by simp; omega) (by have := bT.size; omega)
        obtain ⟨na, nc', rfl⟩ := row_slice hR5
        have HR5 : Hid (RowS w5 w.heap.size (.slice na (K ++ [x]).length nc') (K ++ [x])) := hR5
        have HB5 : Hid (Below w.heap.size w w5) := (HB.out.trans (bT.mono hbz)).grown hg5 (by have := bT.size; omega) (fun y e => (row_lt HW.out e).1)
        obtain ⟨LL, hLL⟩ : ∃ L, (K ++ [x]).length = L := ⟨_, rfl⟩
        rw [hLL] at hr
        clear hR5 hg5 hS bT bA b2
        go_wp2_with (at_builtin; refine wpList_app rfl _ _ 35 35 rfl (.slice wa K.length wc) (.slice (some ⟨w2.heap.size, 0, none⟩) 1 1) _ w5 rfl rfl hr ?_)
        go_wp2
        go_roundw
        case rel => exact ⟨i + 1, na, nc', by go_num, by rw [HE.out.1], by rw [HE.out.2, hLL], c1, by rw [HE.out.2]; exact HR5, HB5⟩
        case measure => simp [intOf]; omega
      · have k := frame_any x (by omega) wr _ _ (frm_no c2)
        have HE : Hid (frmL (bodies.take (i + 1)) = frmL (bodies.take i) ∧ (bodies.take (i + 1)).filter okB = (bodies.take i).filter okB) := by
          rw [Hid, et, frmL_app, List.filter_append]
          simp [frmL, c2]
        clear et hxx
        go_wp2_with fail
        refine k.mono ?_
        rintro e w2 ⟨rfl, b2⟩
        clear k hcx
        have HW2 : Hid (RowS w2 w.heap.size (.slice wa ((bodies.take i).filter okB).length wc) ((bodies.take i).filter okB)) := row_gb HW.out (gb_none b2) (by simp)
        have HB2 : Hid (Below w.heap.size w w2) := HB.out.trans (b2.mono hbz)
        clear b2
        go_wp2
        go_roundw
        case rel => exact ⟨i + 1, wa, wc, by go_num, by rw [HE.out.1], by rw [HE.out.2], c1, by rw [HE.out.2]; exact HW2, HB2⟩
        case measure => simp [intOf]; omega
    · obtain rfl : i = bodies.length := by omega
      have z1 : ¬ (bodies.length : Int) < (bodies.length : Int) := by omega
      have HFD : Hid (feedT (frmL bodies) = (bodies.filter okB, [], false)) := feedT_frm bodies
      have hALL : (frmL bodies).length ≤ 549755813888 := H3.out
      have hKK : (bodies.filter okB).length ≤ 1073741824 := Nat.le_trans (List.length_filter_le _ _) hb1
      rw [List.take_length] at HW ⊢
      obtain ⟨ALL, hA⟩ : ∃ A, frmL bodies = A := ⟨_, rfl⟩
      obtain ⟨K, hK⟩ : ∃ K, bodies.filter okB = K := ⟨_, rfl⟩
      rw [hA, hK] at HFD
      rw [hA] at hALL
      rw [hK] at hKK HW
      rw [hA, hK]
      clear hA hK H3 H4
      obtain ⟨wq, hwq⟩ : ∃ wq : World, wq = wr := ⟨_, rfl⟩
      subst hwq
      go_wp2_with fail
      obtain ⟨N2, hN2⟩ : ∃ N2, wq.heap.size = N2 := ⟨_, rfl⟩
      have hN2' : wq.heap.size ≤ N2 := by omega
      have hN3 : N2 ≤ wq.heap.size := by omega
      clear hN2
      go_loopw [42, 5, 11] (fun jv av rv wr => ∃ (j : Nat) (cr : List By) (rest : By) (ca : Option Addr) (cc : Nat), jv = .int .i64 (j : Int) ∧ av = .string (tx rest) ∧ rv = .slice ca cr.length cc ∧ j ≤ cuts.length ∧ cr.length ≤ j ∧ Hid (cr.flatten ++ rest = ALL) ∧ Hid (RowS wr N2 (.slice ca cr.length cc) cr) ∧ Hid (Below N2 wq wr)) (fun jv _ _ _ => cuts.length - (intOf jv).toNat)
      case atStart => exact ⟨0, [], ALL, none, 0, rfl, rfl, rfl, Nat.zero_le _, Nat.zero_le _, rfl, ⟨rfl, .inl ⟨rfl, rfl⟩⟩, Below.refl _ _⟩
      case round =>
        obtain ⟨j, cr, rest, ca, cc, rfl, rfl, rfl, hj, hcj, HFL, HR, HB2⟩ := hrel
        have hbz2 := HB2.out.size
        have hrl : rest.length ≤ 549755813888 := by
          have h := congrArg List.length HFL.out
          rw [List.length_append] at h
          omega
        have hsz := tx_size rest
        by_cases c1 : j < cuts.length
        · have z2 : (j : Int) < (cuts.length : Int) := by omega
          obtain ⟨b', o, c', x, e1, _, _, hxx, hcx⟩ := ((H2.out.keep HB.out).mono (Nat.le_trans HB.out.size hN2') |>.keep HB2.out).get (i := j) c1
          simp only [Value.slice.injEq] at e1
          obtain ⟨rfl, -, rfl⟩ := e1
          clear hxx
          by_cases c2 : x < 0
          · go_wp2
            go_roundw
            case rel => exact ⟨j + 1, cr, rest, ca, cc, by go_num, rfl, rfl, c1, by omega, HFL, HR, HB2⟩
            case measure => simp [intOf]; omega
          · by_cases c3 : (rest.length : Int) < x
            · go_wp2
              go_roundw
              case rel => exact ⟨j + 1, cr, rest, ca, cc, by go_num, rfl, rfl, c1, by omega, HFL, HR, HB2⟩
              case measure => simp [intOf]; omega
            · obtain ⟨n, hn⟩ : ∃ n : Nat, x = (n : Int) := ⟨x.toNat, by omega⟩
              subst hn
              have hnl : n ≤ rest.length := by omega
              have z3 : (n : Int) ≤ (rest.length : Int) := by omega
              have hx1 : (tx rest).extract 0 n = tx (rest.take n) := by rw [tx_ext]; simp
              have hx2 : (tx rest).extract n rest.length = tx (rest.drop n) := by rw [tx_ext, List.take_of_length_le (by simp)]
              have hx3 : (tx rest).extract n (tx rest).size = tx (rest.drop n) := by rw [hsz]; exact hx2
              have bA : Below wr.heap.size wr (wr.alloc (.cells #[.string (tx (rest.take n))] 9)) := ba _ _
              have hS : Stl (wr.alloc (.cells #[.string (tx (rest.take n))] 9)) (wr.heap.size + 1) (.slice (some ⟨wr.heap.size, 0, none⟩) 1 1) [rest.take n] := ⟨_, _, rfl, by simp, by simp, fun _ => ⟨wr.heap.size, 0, rfl, by omega, fun j s hj => by
                have hj0 : j = 0 := by have := (List.getElem?_eq_some_iff.1 hj).1; simp at this; omega
                subst hj0
                simp only [List.getElem?_cons_zero, Option.some.injEq] at hj
                subst hj
                exact nc _ _ 0 _ rfl rfl⟩⟩
              obtain ⟨v', w5, hr, hR5, hg5, -⟩ := run_appS (row_gb HR.out (gb_none bA) (by simp)) 35 hS (by simp; omega) (by have := bA.size; omega)
              obtain ⟨na, nc', rfl⟩ := row_slice hR5
              have HR5 : Hid (RowS w5 N2 (.slice na (cr ++ [rest.take n]).length nc') (cr ++ [rest.take n])) := hR5
              have HB5 : Hid (Below N2 wq w5) := (HB2.out.trans (bA.mono (by omega))).grown hg5 (by have := bA.size; omega) (fun y e => (row_lt HR.out e).1)
              have HF5 : Hid ((cr ++ [rest.take n]).flatten ++ rest.drop n = ALL) := by
                rw [Hid, ← HFL.out]
                simp [List.append_assoc]
              have hL1 : (cr ++ [rest.take n]).length = cr.length + 1 := by simp
              have HL1 : Hid ((cr ++ [rest.take n]).length = cr.length + 1) := hL1
              rw [hL1] at hr
              obtain ⟨T1, hT1⟩ : ∃ T1, rest.take n = T1 := ⟨_, rfl⟩
              obtain ⟨T2, hT2⟩ : ∃ T2, rest.drop n = T2 := ⟨_, rfl⟩
              rw [hT1] at hr hx1 HR5 HF5 HL1
              rw [hT2] at hx2 hx3 HF5
              clear hR5 hg5 hS bA hL1 hT1 hT2
              go_wp2_with (at_builtin; refine wpList_app rfl _ _ 35 35 rfl (.slice ca cr.length cc) (.slice (some ⟨wr.heap.size, 0, none⟩) 1 1) _ w5 rfl rfl hr ?_)
              go_wp2
              go_roundw
              case rel => exact ⟨j + 1, cr ++ [T1], T2, na, nc', by go_num, rfl, by rw [HL1.out], c1, by rw [HL1.out]; omega, HF5, HR5, HB5⟩
              case measure => simp [intOf]; omega
        · obtain rfl : j = cuts.length := by omega
          have z2 : ¬ (cuts.length : Int) < (cuts.length : Int) := by omega
          have bA : Below wr.heap.size wr (wr.alloc (.cells #[.string (tx rest)] 9)) := ba _ _
          have hS : Stl (wr.alloc (.cells #[.string (tx rest)] 9)) (wr.heap.size + 1) (.slice (some ⟨wr.heap.size, 0, none⟩) 1 1) [rest] := ⟨_, _, rfl, by simp, by simp, fun _ => ⟨wr.heap.size, 0, rfl, by omega, fun j s hj => by
            have hj0 : j = 0 := by have := (List.getElem?_eq_some_iff.1 hj).1; simp at this; omega
            subst hj0
            simp only [List.getElem?_cons_zero, Option.some.injEq] at hj
            subst hj
            exact nc _ _ 0 _ rfl rfl⟩⟩
          obtain ⟨v', w5, hr, hR5, hg5, -⟩ := run_appS (row_gb HR.out (gb_none bA) (by simp)) 35 hS (by simp; omega) (by have := bA.size; omega)
          obtain ⟨na, nc', rfl⟩ := row_slice hR5
          have HB5 : Hid (Below N2 wq w5) := (HB2.out.trans (bA.mono (by omega))).grown hg5 (by have := bA.size; omega) (fun y e => (row_lt HR.out e).1)
          have hfl : (cr ++ [rest]).flatten = ALL := by rw [← HFL.out]; simp
          have hL1 : (cr ++ [rest]).length ≤ 1073741825 := by simp; omega
          have kc := crumbs_any (.slice na (cr ++ [rest]).length nc') (cr ++ [rest]) w5 (hR5.stl (by omega)) (by omega) (fun s hs => by have := mem_flat hs; rw [hfl] at this; omega)
          have HALL : Hid ((∀ p ∈ crmT (some []) (cr ++ [rest]), p.2 = 0) ∧ ((crmT (some []) (cr ++ [rest])).map (·.1)).flatten = K) := by
            refine crm_all (cr ++ [rest]) [] K ?_ (feedT_few (by simp))
            rw [List.nil_append, hfl]
            exact HFD.out
          obtain ⟨LL, hLL⟩ : ∃ L, (cr ++ [rest]).length = L := ⟨_, rfl⟩
          have HLE : Hid ((crmT (some []) (cr ++ [rest])).length = LL) := by rw [Hid, crmT_len]; exact hLL
          unfold CrP at kc
          rw [hLL] at hr kc
          obtain ⟨C, hC⟩ : ∃ C, crmT (some []) (cr ++ [rest]) = C := ⟨_, rfl⟩
          rw [hC] at HALL HLE kc
          have hlb : LL ≤ 1073741825 := by omega
          clear hR5 hg5 hS bA hfl hL1 hLL hC
          go_wp2_with (at_builtin; refine wpList_app rfl _ _ 35 35 rfl (.slice ca cr.length cc) (.slice (some ⟨wr.heap.size, 0, none⟩) 1 1) _ w5 rfl rfl hr ?_)
          go_wp2_with fail
          refine kc.mono ?_
          rintro e w6 ⟨oa, oc, es, rfl, hes, hrow, heach, hfr, b6⟩
          clear kc hr
          have HES : Hid (es.map Fe.p = C) := hes
          have HROW : Hid (w6.ownsRow w5.heap.size 39 2 (.slice oa LL oc) LL (fl2 es)) := hrow
          have HEA : Hid (∀ e ∈ es, RowS w6 w5.heap.size e.v e.fs) := heach
          have hesl : es.length = LL := by rw [← HLE.out, ← HES.out, List.length_map]
          have HESL : Hid (es.length = LL) := hesl
          have B6 : Below w.heap.size w w6 := HB.out.trans ((HB5.out.trans (b6.mono (by have := HB5.out.size; omega))).mono (by have := HB.out.size; omega))
          have HB6 : Hid (Below w.heap.size w w6) := B6
          have HK6 : Hid (Stl w6 w6.heap.size (.slice wa K.length wc) K) := by
            have s0 := RowS.stl HW.out (by omega)
            have bb : Below wq.heap.size wq w6 := (HB5.out.mono hN2').trans (b6.mono (by have := HB5.out.size; omega))
            exact (s0.keep bb).mono bb.size
          clear hes hrow heach hfr b6 hesl B6
          go_wp2_with fail
          obtain ⟨wv, hwv⟩ : ∃ wv : World, wv = wr := ⟨_, rfl⟩
          subst hwv
          go_loopw [71, 14] (fun kv gv wr => ∃ (k : Nat) (ga : Option Addr) (gc : Nat), kv = .int .i64 (k : Int) ∧ gv = .slice ga (((es.map Fe.fs).take k).flatten).length gc ∧ k ≤ LL ∧ Hid (RowS wr w6.heap.size (.slice ga (((es.map Fe.fs).take k).flatten).length gc) ((es.map Fe.fs).take k).flatten) ∧ Hid (Below w6.heap.size w6 wr)) (fun kv _ _ => LL - (intOf kv).toNat)
          case atStart => exact ⟨0, none, 0, rfl, rfl, Nat.zero_le _, ⟨rfl, .inl ⟨rfl, rfl⟩⟩, Below.refl _ _⟩
          case round =>
            obtain ⟨k, ga, gc, rfl, rfl, hk, HG, HB7⟩ := hrel
            have HFS : Hid ((es.map Fe.fs).flatten = K) := by
              rw [Hid, ← HALL.out.2, ← HES.out, List.map_map]
              rfl
            by_cases c4 : k < LL
            · have z4 : (k : Int) < (LL : Int) := by omega
              obtain ⟨e, he⟩ : ∃ e, es[k]? = some e := ⟨_, List.getElem?_eq_getElem (by rw [HESL.out]; exact c4)⟩
              obtain ⟨g, hoa, hgl, g0, g1⟩ := fe_get HROW.out he
              subst hoa
              have hmem : e ∈ es := List.mem_of_getElem? he
              have her : e.er = 0 := HALL.out.1 (e.fs, e.er) (by rw [← HES.out]; exact List.mem_map_of_mem hmem)
              rw [her] at g1
              have q0 := (HB7.out.cell (p := ⟨g, k * 2, none⟩) hgl).trans g0
              have q1 := (HB7.out.cell (p := ⟨g, k * 2 + 1, none⟩) hgl).trans g1
              have hbz7 := HB7.out.size
              have et : ((es.map Fe.fs).take (k + 1)).flatten = ((es.map Fe.fs).take k).flatten ++ e.fs := by
                rw [List.take_add_one, List.getElem?_map, he]
                simp
              have hgl1 : ((es.map Fe.fs).take (k + 1)).flatten.length ≤ 1073741824 := by
                have := flat_take (es.map Fe.fs) (k + 1)
                rw [HFS.out] at this
                omega
              rw [et, List.length_append] at hgl1
              obtain ⟨fa, fc, fs, er⟩ := e
              simp only at her hgl1 et g0 q0
              subst her
              have bA : Below wr.heap.size wr (wr.alloc (.cells #[.slice fa fs.length fc, .int .i64 0] 39)) := ba _ _
              have tA := TwoB.new wr (.slice fa fs.length fc) (.int .i64 0) 39 _ rfl
              have hfsl : fs.length ≤ 1073741824 := by omega
              have hSt : Stl (wr.alloc (.cells #[.slice fa fs.length fc, .int .i64 0] 39)) w6.heap.size (.slice fa fs.length fc) fs := ((RowS.stl (HEA.out ⟨fa, fc, fs, 0⟩ hmem) (by show fs.length ≤ _; omega)).keep HB7.out).keep (bA.mono hbz7)
              obtain ⟨v', w8, hr, hR8, hg8, -⟩ := run_appS (row_gb HG.out (gb_none bA) (by simp)) 35 hSt (by omega) (by have := bA.size; omega)
              obtain ⟨na2, nc2, rfl⟩ := row_slice hR8
              have HR8 : Hid (RowS w8 w6.heap.size (.slice na2 (((es.map Fe.fs).take k).flatten ++ fs).length nc2) (((es.map Fe.fs).take k).flatten ++ fs)) := hR8
              have HB8 : Hid (Below w6.heap.size w6 w8) := (HB7.out.trans (bA.mono hbz7)).grown hg8 (by have := bA.size; omega) (fun y e => (row_lt HG.out e).1)
              have HET : Hid (((es.map Fe.fs).take (k + 1)).flatten = ((es.map Fe.fs).take k).flatten ++ fs) := et
              obtain ⟨GG, hGG⟩ : ∃ G, ((es.map Fe.fs).take k).flatten = G := ⟨_, rfl⟩
              rw [hGG] at hr HR8 HET hgl1
              rw [hGG]
              obtain ⟨L8, hL8⟩ : ∃ L, (GG ++ fs).length = L := ⟨_, rfl⟩
              have HL8 : Hid ((GG ++ fs).length = L8) := hL8
              rw [hL8] at hr
              have a0 := tA.c0
              have a1 := tA.c1
              clear g0 g1 et hSt hR8 hg8 bA tA hGG hL8 HG he
              go_wp2_with (at_builtin; refine wpList_app rfl _ _ 35 35 rfl (.slice ga GG.length gc) (.slice fa fs.length fc) _ w8 rfl rfl hr ?_)
              go_wp2
              go_roundw
              case rel => exact ⟨k + 1, na2, nc2, by go_num, by rw [HET.out, HL8.out], c4, by rw [HET.out]; exact HR8, HB8⟩
              case measure => simp [intOf]; omega
            · obtain rfl : k = LL := by omega
              have z4 : ¬ (k : Int) < (k : Int) := by omega
              have et : (es.map Fe.fs).take k = es.map Fe.fs := List.take_of_length_le (by rw [List.length_map, HESL.out]; exact Nat.le_refl _)
              rw [et, HFS.out] at HG ⊢
              have ks := sametexts_any (.slice ga K.length gc) (.slice wa K.length wc) K wr (RowS.stl HG.out (by omega)) ((HK6.out.keep HB7.out).mono HB7.out.size)
              clear HG et
              go_wp2_with fail
              refine ks.mono ?_
              rintro e w9 ⟨rfl, b9⟩
              clear ks
              go_wp2
              go_ret
              exact ⟨rfl, HB6.out.trans ((HB7.out.trans (b9.mono HB7.out.size)).mono HB6.out.size)⟩
end Go.Proofs.Ytnoedkebmpfagaa
