/- Walks: the sweeps of all elbows, by the program. -/
import Derived.Test.YtmjcdggmofohcaaWlW
import Derived.Test.YtmjcdggmofohcaaMapZ
namespace Go.Proofs.Ytmjcdggmofohcaa
open Go.RowKit Go.Shelf Go.Maps Go.Sort
attribute [local go_sem] Oper.semAt_some
theorem row_own {β : Type} (B c₀ : Nat) (v : Value) (L : List Int) : OwnFrom B (fun (_ : β) W => Row W c₀ v L) := fun s X Y row hs hg hr => by
  rcases hs with h | ⟨b, cap, e, hl, h1, h2, hc⟩
  · exact .inl h
  · refine .inr ⟨b, cap, e, hl, h1, Nat.lt_of_lt_of_le h2 hg.size, fun k x hx => ?_⟩
    have hcx := hc k x hx
    have hne : some b ≠ row := fun e' => by
      obtain ⟨o, ho, hnc⟩ := (hr b e'.symm).2
      unfold World.cell? at hcx
      rw [ho] at hcx
      cases o <;> simp_all [Obj.isCells]
    exact (World.cell?_of_block (a := ⟨b, k, none⟩) (hg.block b h2 hne)).trans hcx
namespace Wl
theorem swTo_bd {t : Trk} {ws : List Pt} {es : List Int} (hs : ∀ k, k < t.ps.length → Geo.sm (ptAt t.ps k)) (hsw : ∀ k, k < ws.length → Geo.sm (ptAt ws k)) (hin : ∀ k, k < es.length → 0 ≤ esAt es k ∧ esAt es k < t.ps.length) (hle : es.length = ws.length) (h0 : 0 < ws.length) : ∀ k : Nat, -(8000000 * (k : Int)) ≤ swTo t ws es k ∧ swTo t ws es k ≤ 8000000 * (k : Int)
  | 0 => by simp [swTo]
  | k + 1 => by
    have ih := swTo_bd hs hsw hin hle h0 k
    have hm : ∀ j, j % es.length < es.length := fun j => Nat.mod_lt _ (by omega)
    have hmw : ∀ j, j % ws.length < ws.length := fun j => Nat.mod_lt _ h0
    have hp : ∀ j, Geo.sm (ptAt t.ps (eAt es j).toNat) := fun j => by
      have := hin _ (hm j)
      rw [eAt_mod]
      exact hs _ (by omega)
    have hq := quad_bd (hp k) (hsw _ (hmw k)) (hsw _ (hmw (k + 1))) (hp (k + 1))
    show -(8000000 * ((k + 1 : Nat) : Int)) ≤ swTo t ws es k + quad _ _ _ _ ∧ swTo t ws es k + quad _ _ _ _ ≤ 8000000 * ((k + 1 : Nat) : Int)
    omega
end Wl
set_option maxRecDepth 100000 in
set_option maxHeartbeats 8000000 in
theorem RollsW_err (t : Wl.Trk) (ws : List Wl.Pt) (A Aw : Option Addr) (c cw : Nat) (hl : t.ps.length ≤ 1000000000) (hlw : ws.length ≤ 1000000000) (w : World) (hP : Prs w w.heap.size A t.ps) (hQ : Prs w w.heap.size Aw ws) (h0 : Wl.setE t ws ≠ 0) :
    Calls Try.prog 31 #[.agg (trV t A c), .slice Aw ws.length cw] w (IntsEPost [] (Wl.setE t ws) w) := by
  have HC : Hid (∀ W, Below w.heap.size w W → Calls Try.prog 63 #[.agg (trV t A c), .slice Aw ws.length cw] W (McPost t A c Aw ws.length cw (Wl.setE t ws) W)) := fun W hW => setW_any t ws A Aw c cw hl hlw W (prs_keep hP hW) (prs_keep hQ hW)
  clear hP hQ hl hlw
  unfold McPost mcE at HC
  rw [if_neg h0] at HC
  generalize Wl.setE t ws = SE at *
  obtain ⟨ps, cl, lo, hi⟩ := t
  unfold trV at *
  dsimp only at *
  have hce : (SE == 0) = false := by simpa using h0
  have hcn : (SE != 0) = true := by simpa using h0
  go_enter Try.func31, Try.ntmps31
  go_wp2_with fail
  have hB1 : Below w.heap.size w (w.alloc (.cells #[.slice A ps.length c, .int .i64 cl, .int .i64 lo, .int .i64 hi] 26)) := by (repeat' (first | (with_reducible exact Below.refl _ _) | (with_reducible assumption) | (with_reducible refine Below.alloc ?_ ?_ _) | (with_reducible refine Below.drew ?_) | (with_reducible refine Below.setCell ?_ ?_ _) | go_size | (exact (by simp)) | omega))
  generalize World.alloc w _ = w1 at *
  refine (HC.out _ hB1).mono ?_
  rintro e w2 ⟨rfl, hb2⟩
  have hB2 := hB1.trans (hb2.mono hB1.size)
  go_wp2_with fail
  have hB3 : Below w.heap.size w (w2.alloc (.cells #[.slice none 0 0, .int .i64 0, .int .i64 0, .int .i64 0, .slice none 0 0] 70)) := hB2.alloc hB2.size _
  generalize World.alloc w2 _ = w3 at *
  try go_wp2_with fail
  go_returns
  exact ⟨_, rfl, .inl ⟨rfl, rfl⟩, hB3⟩
set_option maxRecDepth 100000 in
set_option maxHeartbeats 8000000 in
theorem RollsW_yes (t : Wl.Trk) (ws : List Wl.Pt) (A Aw : Option Addr) (c cw : Nat) (hl : t.ps.length ≤ 1000000000) (hlw : ws.length ≤ 1000000000) (w : World) (hP : Prs w w.heap.size A t.ps) (hQ : Prs w w.heap.size Aw ws) (h0 : Wl.setE t ws = 0) :
    Calls Try.prog 31 #[.agg (trV t A c), .slice Aw ws.length cw] w (IntsEPost (Wl.rollsL t ws) 0 w) := by
  have HC : Hid (∀ W, Below w.heap.size w W → Calls Try.prog 63 #[.agg (trV t A c), .slice Aw ws.length cw] W (McPost t A c Aw ws.length cw 0 W)) := fun W hW => by rw [← h0]; exact setW_any t ws A Aw c cw hl hlw W (prs_keep hP hW) (prs_keep hQ hW)
  obtain ⟨⟨ht, hw⟩, hne⟩ := Wl.setE_yes h0
  have HSEQ : Hid (∀ W, Below w.heap.size w W → SeqFarP Try.prog (ElbPr t ws W) 64 #[.agg (mcV t A c Aw ws.length cw)] #[] encEl w.heap.size (fun xs => xs.map Elb.es = Wl.elbsL t ws) (fun pre => pre.map Elb.es <+: Wl.elbsL t ws) 20000000 W) := fun W hW => elbows_far t ws A Aw c cw ht hw w.heap.size W hW.size (hP.keep hW) (hQ.keep hW)
  have h8 := (Wl.pts_all hw).2
  have h0w : 0 < ws.length := by
    have := hw
    unfold Wl.ptsB inB at this
    simp only [Bool.and_eq_true, decide_eq_true_eq] at this
    omega
  have HIN : ∀ es : List Int, (es.length = ws.length ∧ ∀ p ∈ es, 0 ≤ p ∧ p < t.ps.length) → ∀ k, k < es.length → 0 ≤ Wl.esAt es k ∧ Wl.esAt es k < t.ps.length := fun es h k hk => by
    have := h.2 _ (List.getElem_mem hk)
    unfold Wl.esAt
    rw [List.getElem?_eq_getElem hk]
    exact this
  have HSW : Hid (∀ (x : Elb), (x.es.length = ws.length ∧ ∀ p ∈ x.es, 0 ≤ p ∧ p < t.ps.length) → ∀ V, Below w.heap.size w V → Ints V V.heap.size (.slice x.A x.es.length x.c) x.es → Calls Try.prog 58 #[.agg (mcV t A c Aw ws.length cw), .slice x.A x.es.length x.c] V fun e w' => e = .returned (.int .i64 (Wl.sweepV t ws x.es)) ∧ Below V.heap.size V w') := fun x hx V hV hI => sweepW_any t ws x.es A Aw x.A c cw x.c (Wl.trk_sm ht) (fun k hk => Wl.pts_sm hw hk) (HIN x.es hx) hl hx.1 h8 V (prs_keep hP hV) (prs_keep hQ hV) hI
  have HBD : Hid (∀ (x : Elb), (x.es.length = ws.length ∧ ∀ p ∈ x.es, 0 ≤ p ∧ p < t.ps.length) → -1000000000 ≤ Wl.sweepV t ws x.es ∧ Wl.sweepV t ws x.es ≤ 1000000000) := fun x hx => by
    have := Wl.swTo_bd (Wl.trk_sm ht) (fun k hk => Wl.pts_sm hw hk) (HIN x.es hx) hx.1 h0w x.es.length
    unfold Wl.sweepV
    omega
  have HRL : Hid (Wl.rollsL t ws = Wl.ascOf ((Wl.elbsL t ws).map (Wl.sweepV t ws))) := rfl
  have HLN : (Wl.elbsL t ws).length ≤ 16777216 := Wl.goL_bd ht hw ws.length [] (Nat.le_refl _)
  have hmm := @run_makeMap Try.prog
  clear HIN h8 h0w
  clear hP hQ hl hlw h0 ht hw hne
  generalize Wl.rollsL t ws = RL at *
  generalize hsv : Wl.sweepV t ws = SV at *
  clear hsv
  generalize Wl.elbsL t ws = G at *
  unfold McPost mcE at HC
  rw [if_pos rfl] at HC
  obtain ⟨ps, cl, lo, hi⟩ := t
  unfold trV mcV at *
  dsimp only at *
  obtain ⟨n, hn⟩ : ∃ n : Nat, 9 ≤ n := ⟨9, Nat.le_refl _⟩
  have h1 : 1 ≤ n := by omega
  refine (callsIn_wide (n := n)).1 ?_
  refine callsIn_of_wp_marks Try.func31 rfl trivial ?_ rfl
  simp only [Try.ntmps31, List.size_toArray, List.length_cons, List.length_nil, Nat.reduceAdd, Nat.reduceSub, Array.replicate_succ, Array.replicate_zero, List.push_toArray, List.append_toArray, List.nil_append, List.cons_append]
  gi_wp2
  have hB1 : Below w.heap.size w (w.alloc (.cells #[.slice A ps.length c, .int .i64 cl, .int .i64 lo, .int .i64 hi] 26)) := by (repeat' (first | (with_reducible exact Below.refl _ _) | (with_reducible assumption) | (with_reducible refine Below.alloc ?_ ?_ _) | (with_reducible refine Below.drew ?_) | (with_reducible refine Below.setCell ?_ ?_ _) | go_size | (exact (by simp)) | omega))
  generalize World.alloc w _ = w1 at *
  refine ⟨trivial, (callsIn_wide.2 (HC.out _ hB1)).mono ?_⟩
  rintro e w2 ⟨rfl, hb2⟩
  have hB2 := hB1.trans (hb2.mono hB1.size)
  clear hb2 hB1 HC
  gi_wp2
  obtain ⟨BM, hBM⟩ : ∃ B, B = w2.heap.size + 1 := ⟨_, rfl⟩
  obtain ⟨BV, hBV⟩ : ∃ B, B = w2.heap.size + 1 + 1 := ⟨_, rfl⟩
  have bG5 : BoxS (((w2.alloc (.cells #[.slice A ps.length c, .int .i64 cl, .int .i64 lo, .int .i64 hi, .slice Aw ws.length cw] 70)).alloc (.map #[] 0)).alloc (.cells #[.map (some (w2.heap.size + 1))] 83)) w2.heap.size 70 #[.slice A ps.length c, .int .i64 cl, .int .i64 lo, .int .i64 hi, .slice Aw ws.length cw] := ((BoxS.new w2 70 #[.slice A ps.length c, .int .i64 cl, .int .i64 lo, .int .i64 hi, .slice Aw ws.length cw]).alloc _).alloc _
  have bV5 : BoxS (((w2.alloc (.cells #[.slice A ps.length c, .int .i64 cl, .int .i64 lo, .int .i64 hi, .slice Aw ws.length cw] 70)).alloc (.map #[] 0)).alloc (.cells #[.map (some (w2.heap.size + 1))] 83)) BV 83 #[.map (some BM)] := by
    have := BoxS.new ((w2.alloc (.cells #[.slice A ps.length c, .int .i64 cl, .int .i64 lo, .int .i64 hi, .slice Aw ws.length cw] 70)).alloc (.map #[] 0)) 83 #[.map (some (w2.heap.size + 1))]
    simp only [World.size_alloc] at this
    rw [hBV, hBM]; exact this
  have hown5 : (((w2.alloc (.cells #[.slice A ps.length c, .int .i64 cl, .int .i64 lo, .int .i64 hi, .slice Aw ws.length cw] 70)).alloc (.map #[] 0)).alloc (.cells #[.map (some (w2.heap.size + 1))] 83)).ownsMap Try.prog 3 (plainElem (H := Empty) Try.prog 4) BM 0 (Wl.mapZ []) := by
    have := World.ownsMap_made (H := Empty) (w2.alloc (.cells #[.slice A ps.length c, .int .i64 cl, .int .i64 lo, .int .i64 hi, .slice Aw ws.length cw] 70)) Try.prog 3 (plainElem Try.prog 4)
    rw [World.size_alloc] at this
    rw [hBM]; exact this.alloc _
  have hB5 : Below w.heap.size w (((w2.alloc (.cells #[.slice A ps.length c, .int .i64 cl, .int .i64 lo, .int .i64 hi, .slice Aw ws.length cw] 70)).alloc (.map #[] 0)).alloc (.cells #[.map (some (w2.heap.size + 1))] 83)) := by have := hB2.size; (repeat' (first | (with_reducible exact Below.refl _ _) | (with_reducible assumption) | (with_reducible refine Below.alloc ?_ ?_ _) | (with_reducible refine Below.drew ?_) | (with_reducible refine Below.setCell ?_ ?_ _) | go_size | (exact (by simp)) | omega))
  have hz : (((w2.alloc (.cells #[.slice A ps.length c, .int .i64 cl, .int .i64 lo, .int .i64 hi, .slice Aw ws.length cw] 70)).alloc (.map #[] 0)).alloc (.cells #[.map (some (w2.heap.size + 1))] 83)).heap.size = w2.heap.size + 3 := by simp
  have hws := hB2.size
  have hord : w2.heap.size < BM ∧ BM < BV ∧ BV < w2.heap.size + 3 := by omega
  generalize (((w2.alloc (.cells #[.slice A ps.length c, .int .i64 cl, .int .i64 lo, .int .i64 hi, .slice Aw ws.length cw] 70)).alloc (.map #[] 0)).alloc (.cells #[.map (some (w2.heap.size + 1))] 83)) = w5 at *
  rw [← hBV, ← hBM]
  clear hBM hBV hB2
  obtain ⟨k1, k2, k3⟩ := hord
  refine wpIn_farP (n₀ := w.heap.size) (gf := 64) (pb := #[.agg #[.slice A ps.length c, .int .i64 cl, .int .i64 lo, .int .i64 hi, .slice Aw ws.length cw]]) (lb := #[]) rfl (enters_of Try.func64 (by kernel_rfl) rfl)
    (HSEQ.out w5 hB5) (Below.refl _ _) (by omega) (fun _ => rfl)
    (fun (pre : List Elb) V => ((BoxS V w2.heap.size 70 #[.slice A ps.length c, .int .i64 cl, .int .i64 lo, .int .i64 hi, .slice Aw ws.length cw] ∧ BoxS V BV 83 #[.map (some BM)]) ∧ V.ownsMap Try.prog 3 (plainElem (H := Empty) Try.prog 4) BM pre.length (Wl.mapZ (pre.map (fun y : Elb => SV y.es)))) ∧ Below w.heap.size w V)
    (fun _ _ _ => False)
    (OwnFrom.and (OwnFrom.and (OwnFrom.and (Own.from (boxS_own _ _ (fun _ => _)) _) (Own.from (boxS_own _ _ (fun _ => _)) _)) (fun s X Y row hs hg hr => hs.kept hg (fun e => by have := (hr _ e.symm).1; omega))) (ownFrom_below (Nat.le_refl _) (by omega)))
    (fun _ _ _ _ _ hs _ _ => hs)
    ⟨⟨⟨bG5, bV5⟩, hown5⟩, hB5⟩
    (fun x a' V => (Row V w5.heap.size (.slice x.A x.es.length x.c) x.es ∧ (x.es.length = ws.length ∧ ∀ p ∈ x.es, 0 ≤ p ∧ p < (ps.length : Int))) ∧ a' = { tmps := #[.agg #[.slice A ps.length c, .int .i64 cl, .int .i64 lo, .int .i64 hi], .slice Aw ws.length cw, .pointer (some ⟨w.heap.size, 0, none⟩), undef, .slice none 0 0, .int .i64 0, .pointer (some ⟨w2.heap.size, 0, none⟩), .int .i64 0, .pointer (some ⟨BV, 0, none⟩), .slice x.A x.es.length x.c, .tuple #[.agg #[.slice A ps.length c, .int .i64 cl, .int .i64 lo, .int .i64 hi, .slice Aw ws.length cw], .int .i64 0], .agg #[.slice A ps.length c, .int .i64 cl, .int .i64 lo, .int .i64 hi], .slice Aw ws.length cw, .tuple #[.agg #[.slice A ps.length c, .int .i64 cl, .int .i64 lo, .int .i64 hi, .slice Aw ws.length cw], .int .i64 0], .agg #[.slice A ps.length c, .int .i64 cl, .int .i64 lo, .int .i64 hi, .slice Aw ws.length cw], .int .i64 0, .int .i64 0, .bool false, undef, .map (some BM), .agg #[.slice A ps.length c, .int .i64 cl, .int .i64 lo, .int .i64 hi, .slice Aw ws.length cw], .func (.func 64) #[.agg #[.slice A ps.length c, .int .i64 cl, .int .i64 lo, .int .i64 hi, .slice Aw ws.length cw]] #[], .slice x.A x.es.length x.c, undef, undef, undef, undef, undef, undef, undef], defers := [] })
    (fun x a' s X Y row hs hg hr => ⟨⟨row_own _ _ _ _ s X Y row hs.1.1 hg hr, hs.1.2⟩, hs.2⟩)
    ?assign ?body ?done ?stop
  case assign =>
    rintro l2 pre x V K hI hpr hK
    have HPR := Lib.hid hpr
    have HI := Lib.hid hI
    clear hpr hI
    unfold encEl
    gi_wp2
    exact hK _ _ (Apart.refl _ _ _) HI.out ⟨HPR.out, rfl⟩
  case body =>
    rintro l2 pre x a' V ⟨⟨⟨bG, bV⟩, hown⟩, hB⟩ ⟨⟨hrow, hx⟩, rfl⟩ hlt
    have HX := Lib.hid hx
    have hbd := HBD.out x hx
    have hI := hrow.ints
    have hmap : (pre ++ [x]).map (fun y : Elb => SV y.es) = pre.map (fun y : Elb => SV y.es) ++ [SV x.es] := by rw [List.map_append]; rfl
    have hsn := Lib.hid (Wl.mapZ_snoc (pre.map (fun y : Elb => SV y.es)) (SV x.es))
    rw [← hmap] at hsn
    have HO : Hid (∀ W, Below V.heap.size V W → Calls Try.prog 58 #[.agg #[.slice A ps.length c, .int .i64 cl, .int .i64 lo, .int .i64 hi, .slice Aw ws.length cw], .slice x.A x.es.length x.c] W fun e w' => e = .returned (.int .i64 (SV x.es)) ∧ Below W.heap.size W w') := fun W hW => HSW.out x HX.out W (hB.trans (hW.mono hB.size)) ((hI.keep hW).more hW.size)
    have hln : (pre ++ [x]).length = pre.length + 1 := by simp
    have hln := Lib.hid hln
    generalize SV x.es = sv at *
    clear hrow hx hI hmap HX
    have hmo : Try.prog.follows .mixedOrders = true := by kernel_rfl
    have hmax : (20000000 : Nat) < maxLen := by decide
    have q0 : Below V.heap.size V V.drew := (Below.refl _ _).drew
    have KC : Hid (∀ V', Below V.heap.size V V' → (V'.cell? ⟨w2.heap.size, 0, none⟩ = some (.slice A ps.length c) ∧ V'.cell? ⟨w2.heap.size, 1, none⟩ = some (.int .i64 cl) ∧ V'.cell? ⟨w2.heap.size, 2, none⟩ = some (.int .i64 lo) ∧ V'.cell? ⟨w2.heap.size, 3, none⟩ = some (.int .i64 hi) ∧ V'.cell? ⟨w2.heap.size, 4, none⟩ = some (.slice Aw ws.length cw)) ∧ V'.cell? ⟨BV, 0, none⟩ = some (.map (some BM))) :=
      fun V' h => by
        have b := bG.below h
        exact ⟨⟨b.cell 0 rfl, b.cell 1 rfl, b.cell 2 rfl, b.cell 3 rfl, b.cell 4 rfl⟩, (bV.below h).cell 0 rfl⟩
    have hBs := hB.size
    gi_wp2
    refine wpIn_region_held (fun V' => Below V.heap.size V V') 4 hmo ?_
    refine wpHeldIn_take (i := 0) (v := ?_) (plain_of (by kernel_rfl)) rfl (by kernel_rfl) (fun _ _ _ h => h) (yieldsSoIn_of (by kernel_rfl) ?_ (fun _ => rfl)) q0 ?_; rotate_left; focus (intro wq hw; have kq := KC.out wq hw; clear hw; go_simp; try (with_reducible rfl))
    refine wpHeldIn_take (i := 1) (v := ?_) (plain_of (by kernel_rfl)) rfl (by kernel_rfl) (fun _ _ _ h => h) (yieldsSoIn_of (by kernel_rfl) ?_ (fun _ => rfl)) q0 ?_; rotate_left; focus (intro wq hw; have kq := KC.out wq hw; clear hw; go_simp; try (with_reducible rfl))
    refine wpHeldIn_take (i := 2) (v := ?_) (plain_of (by kernel_rfl)) rfl (by kernel_rfl) (fun _ _ _ h => h) (yieldsSoIn_of (by kernel_rfl) ?_ (fun _ => rfl)) q0 ?_; rotate_left; focus (intro wq hw; clear hw; go_simp; try (with_reducible rfl))
    refine wpHeldIn_one (i := 3) (by kernel_rfl) (by kernel_rfl) rfl (by kernel_rfl) (fun K1 hK1 => ?_)
    go_simp
    refine ⟨trivial, (CallsIn.inRound l2 (callsIn_wide.2 (HO.out _ q0))).mono ?_⟩
    rintro e V2 ⟨rfl, hb2⟩
    have q1 := q0.trans (hb2.mono q0.size)
    refine hK1 _ _ q1 ?_
    refine wpHeldIn_last (by kernel_rfl) rfl (by kernel_rfl) (fun K2 hK2 => ?_)
    refine wpIn_mapUpdate_at _ _ _ _ 83 rfl 3 4 (Maps.int_keyed Try.underlying3) Try.underlying83 _ BM pre.length _ rfl (ownsMap_below hown q1) (by omega) _ _ _ rfl rfl (Maps.keyOf_int_mk Try.underlying3 (wf_mid hbd)) _ [] (plainElem_bool Try.underlying4 true) ?_
    intro V3 hown3 hg3
    refine hK2 _ _ ?_
    refine wpHeldIn_done (by kernel_rfl) ?_ _
    go_simp
    gi_wp2
    have hA3 : Apart w.heap.size w5.heap.size V V3 := (Apart.of_below q1).trans (Apart.grown hg3 (fun k e => by cases e; omega))
    exact ⟨hA3, ⟨⟨(bG.below q1).kept hg3 (by simp; omega), (bV.below q1).kept hg3 (by simp; omega)⟩, by rw [hln.out, hsn.out]; exact hown3⟩, hB.trans (hA3.below hB.size)⟩
  case done =>
    rintro D0 zs V hD0 hzs ⟨⟨⟨bG, bV⟩, hown⟩, hB⟩ hK
    have hzl : zs.length ≤ 16777216 := by rw [← hzs, List.length_map] at HLN; exact HLN
    have hmm2 : (zs.map (fun y : Elb => SV y.es)) = G.map SV := by rw [← hzs, List.map_map]; rfl
    rw [hmm2] at hown
    have v0 := bV.cell 0 rfl
    have hsz := hown.size_le
    have hmax : (20000000 : Nat) < maxLen := by decide
    have HS := Lib.hid (sorted_call BM _ _ _ V hown (by omega) (by omega))
    have HKY : Hid (∀ W, Calls Try.prog 67 #[.map (some BM)] W fun e w' => e = .returned (.func (.func 91) #[] #[.pointer (some ⟨W.heap.size, 0, none⟩)]) ∧ w' = W.alloc (.cells #[.map (some BM)] 83)) := fun W => keys_call (some BM) W
    rw [Wl.keys_asc, ← HRL.out] at HS
    clear hown bG bV HSEQ hmm hmm2 hzs HSW HBD HRL
    gi_wp2
    refine ⟨trivial, (callsIn_wide.2 (HKY.out _)).mono ?_⟩
    rintro e V2 ⟨rfl, rfl⟩
    gi_wp2
    refine ⟨trivial, (callsIn_wide.2 HS.out).mono ?_⟩
    rintro e V3 ⟨v, rfl, hrow, hnil, hb3⟩
    have q3 : Below V.heap.size V V3 := ((Below.refl _ V).alloc (Nat.le_refl _) _).trans (hb3.mono (by simp))
    have hK3 := heap_below q3 hK
    have hB3 := hB.trans (q3.mono hB.size)
    have hVs := hB.size
    gi_wp2
    refine ⟨by simp, .inl ⟨_, _, rfl, run_takeDeferred hK3, ?_⟩⟩
    have hDV := (Array.getElem?_eq_some_iff.1 hK).1
    refine ⟨.tuple #[v, .int .i64 0], by simp [results, Try.f31, go_sem], v, rfl, Ints.of_own (ownsRow_put (base' := V.heap.size + 1) hrow _ (by simp; omega) (by simp)), hB3.trans (belowK_b (w := w) (Nat.le_refl _) V3 D0 _ _ (by omega) hK3 rfl rfl)⟩
  case stop =>
    rintro D0 cc pre V hD0 hpre h hK
    exact h.elim
theorem RollsW_any (t : Wl.Trk) (ws : List Wl.Pt) (A Aw : Option Addr) (c cw : Nat) (hl : t.ps.length ≤ 1000000000) (hlw : ws.length ≤ 1000000000) (w : World) (hP : Prs w w.heap.size A t.ps) (hQ : Prs w w.heap.size Aw ws) :
    Calls Try.prog 31 #[.agg (trV t A c), .slice Aw ws.length cw] w (IntsEPost (if Wl.setE t ws = 0 then Wl.rollsL t ws else []) (Wl.setE t ws) w) := by
  by_cases h0 : Wl.setE t ws = 0
  · rw [if_pos h0, h0]
    exact RollsW_yes t ws A Aw c cw hl hlw w hP hQ h0
  · rw [if_neg h0]
    exact RollsW_err t ws A Aw c cw hl hlw w hP hQ h0
end Go.Proofs.Ytmjcdggmofohcaa
