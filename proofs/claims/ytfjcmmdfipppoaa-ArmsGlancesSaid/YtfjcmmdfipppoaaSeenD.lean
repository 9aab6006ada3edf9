/- Contract of the specification's Settings; the errors of that of package arms. -/
import Derived.Test.YtfjcmmdfipppoaaSeenC
namespace Go.Proofs.Ytfjcmmdfipppoaa
open Go.RowKit
namespace Ver
/-- Whether the first j glances allow n steps. -/
def pre (p s : Int) (gs : List (Int × Int)) (n : Int) (j : Nat) : Bool := (gs.take j).all (oneB p s n)
theorem pre_zero (p s : Int) (gs : List (Int × Int)) (n : Int) : pre p s gs n 0 = true := rfl
theorem pre_succ {p s : Int} {gs : List (Int × Int)} {n : Int} {j : Nat} {g : Int × Int} (hg : gs[j]? = some g) : pre p s gs n (j + 1) = (pre p s gs n j && (decide (n / p = g.1) && fitB p s n g.2)) := by
  unfold pre
  rw [List.take_add_one, hg]
  simp [oneB]
theorem pre_all {p s : Int} {gs : List (Int × Int)} {n : Int} {j : Nat} (h : gs.length ≤ j) : pre p s gs n j = allB p s gs n := by
  unfold pre allB
  rw [List.take_of_length_le h]
theorem setE_ver {p s : Int} {gs : List (Int × Int)} (h : ¬ vP p s) : setE p s gs = 12 := if_pos h
theorem setE_arg {p s : Int} {gs : List (Int × Int)} (h : vP p s) (h2 : ¬ glsP p gs) : setE p s gs = 1 := by unfold setE; rw [if_neg (fun e => e h), if_pos h2]
theorem setV_err {p s : Int} {gs : List (Int × Int)} (h : ¬ (vP p s ∧ glsP p gs)) : setV p s gs = [] := by
  unfold setV
  by_cases hv : vP p s
  · rw [setE_arg hv (fun h2 => h ⟨hv, h2⟩)]; rfl
  · rw [setE_ver hv]; rfl
theorem setV_len (p s : Int) (gs : List (Int × Int)) : (setV p s gs).length ≤ 10001 := by
  unfold setV
  split
  · exact upto_len p s gs 10001
  · simp
end Ver
set_option maxHeartbeats 1000000 in
theorem Settings_any (p s : Int) (A : Option Addr) (c : Nat) (gs : List (Int × Int)) (w : World) (hl : gs.length ≤ 1000000000) (hg : Gls w w.heap.size A gs) :
    Calls Try.prog 35 #[.agg #[.int .i64 p, .int .i64 s], .slice A gs.length c] w (SomeInts (Ver.setV p s gs) (Ver.setE p s gs) w) := by
  by_cases hv : Ver.vP p s
  · by_cases hgs : Ver.glsP p gs
    · exact Settings_yes p s A c gs w (by omega) hg hv hgs
    · have hE := Lib.hid (Ver.setE_arg hv hgs)
      have hV := Lib.hid (Ver.setV_err (p := p) (s := s) (gs := gs) (fun h => hgs h.2))
      have e1 := Lib.hid (Ver.vE_yes hv)
      have e2 := Lib.hid (Ver.glE_no hgs)
      have HG := Lib.hid hg
      clear hg hv hgs
      go_enter Try.func35, Try.ntmps35
      go_wp2_with fail
      go_step3
      go_wp2_with fail
      refine (checkVernier_any p s _).mono ?_
      rintro e w1 ⟨rfl, hb1⟩
      have hB1 : Below w.heap.size w w1 := Below.trans (by (repeat' (first | (with_reducible exact Below.refl _ _) | (with_reducible assumption) | (with_reducible refine Below.alloc ?_ ?_ _) | (with_reducible refine below_drewN ?_ _) | (with_reducible refine Below.drew ?_) | (with_reducible refine Below.setCell ?_ ?_ _) | go_size))) (hb1.mono (by first | omega | (simp; done) | (simp; omega))); have hz1 := hb1.size; try simp at hz1
      have hl1v : w.heap.size < w1.heap.size := (by omega); have hx1v0 : w1.cell? ⟨w.heap.size, 0, none⟩ = some (.int .i64 (p)) := (by rw [(hb1.cell (by first | omega | (simp; done) | (simp; omega)))]; (repeat (rw [World.cell?_alloc_lt _ _ _ (by first | omega | (simp; done) | (simp; omega))])); go_cell); have hx1v1 : w1.cell? ⟨w.heap.size, 1, none⟩ = some (.int .i64 (s)) := (by rw [(hb1.cell (by first | omega | (simp; done) | (simp; omega)))]; (repeat (rw [World.cell?_alloc_lt _ _ _ (by first | omega | (simp; done) | (simp; omega))])); go_cell)
      rw [e1.out]
      go_wp2_with fail
      refine (checkGlances_any p s A c gs _ (by omega) (by have := (HG.out.keep hB1); exact fun hn => by obtain ⟨b, off, e, hB, hc⟩ := this hn; exact ⟨b, off, e, by omega, hc⟩)).mono ?_
      rintro e w2 ⟨rfl, hb2⟩
      have hB2 : Below w.heap.size w w2 := Below.trans (by (repeat' (first | (with_reducible exact Below.refl _ _) | (with_reducible assumption) | (with_reducible refine Below.alloc ?_ ?_ _) | (with_reducible refine below_drewN ?_ _) | (with_reducible refine Below.drew ?_) | (with_reducible refine Below.setCell ?_ ?_ _) | go_size))) (hb2.mono (by first | omega | (simp; done) | (simp; omega))); have hz2 := hb2.size; try simp at hz2
      rw [e2.out]
      go_wp2_with fail
      try rw [Exit.noGoto_ret]
      go_ret2
      exact ⟨.slice none 0 0, by rw [hE.out]; rfl, by rw [hV.out]; exact own_nil _ _, hB2⟩
  · have hE := Lib.hid (Ver.setE_ver (gs := gs) hv)
    have hV := Lib.hid (Ver.setV_err (p := p) (s := s) (gs := gs) (fun h => hv h.1))
    have e1 := Lib.hid (Ver.vE_no hv)
    clear hg hv
    go_enter Try.func35, Try.ntmps35
    go_wp2_with fail
    go_step3
    go_wp2_with fail
    refine (checkVernier_any p s _).mono ?_
    rintro e w1 ⟨rfl, hb1⟩
    have hB1 : Below w.heap.size w w1 := Below.trans (by (repeat' (first | (with_reducible exact Below.refl _ _) | (with_reducible assumption) | (with_reducible refine Below.alloc ?_ ?_ _) | (with_reducible refine below_drewN ?_ _) | (with_reducible refine Below.drew ?_) | (with_reducible refine Below.setCell ?_ ?_ _) | go_size))) (hb1.mono (by first | omega | (simp; done) | (simp; omega))); have hz1 := hb1.size; try simp at hz1
    rw [e1.out]
    go_wp2_with fail
    try rw [Exit.noGoto_ret]
    go_ret2
    exact ⟨.slice none 0 0, by rw [hE.out]; rfl, by rw [hV.out]; exact own_nil _ _, hB1⟩

theorem gls_keep {w w' : World} {A : Option Addr} {gs : List (Int × Int)} (h : Gls w w.heap.size A gs) (hb : Below w.heap.size w w') : Gls w' w'.heap.size A gs := fun hn => by
  obtain ⟨b, off, e, hB, hc⟩ := h.keep hb hn
  exact ⟨b, off, e, by have := hb.size; omega, hc⟩

theorem order_keep2 {w0 W w' : World} {p q : Nat} {i : Nat} {n1 d1 n2 d2 : Int} (hS : Below w0.heap.size w0 W ∧ (W.cell? ⟨p, 0, none⟩ = some (.int .i64 n1) ∧ W.cell? ⟨p, 1, none⟩ = some (.int .i64 d1)) ∧ W.cell? ⟨q, i, none⟩ = some (.int .i64 n2) ∧ W.cell? ⟨q, i + 1, none⟩ = some (.int .i64 d2)) (hp : p < w0.heap.size) (hq : q < w0.heap.size) (hb : Below W.heap.size W w') :
    Below w0.heap.size w0 w' ∧ (w'.cell? ⟨p, 0, none⟩ = some (.int .i64 n1) ∧ w'.cell? ⟨p, 1, none⟩ = some (.int .i64 d1)) ∧ w'.cell? ⟨q, i, none⟩ = some (.int .i64 n2) ∧ w'.cell? ⟨q, i + 1, none⟩ = some (.int .i64 d2) := by
  obtain ⟨r, ⟨h0, h1⟩, h2, h3⟩ := hS
  have hz := r.size
  have c0 : p < W.heap.size := by omega
  have c1 : q < W.heap.size := by omega
  exact ⟨r.trans (hb.mono hz), ⟨(hb.cell c0).trans h0, (hb.cell c0).trans h1⟩, (hb.cell c1).trans h2, (hb.cell c1).trans h3⟩

set_option maxRecDepth 100000 in
set_option maxHeartbeats 4000000 in
theorem refSettings_any (p s : Int) (A : Option Addr) (c : Nat) (gs : List (Int × Int)) (w : World) (hl : gs.length ≤ 1000000000) (hg : Gls w w.heap.size A gs) :
    Calls Try.prog 36 #[.agg #[.int .i64 p, .int .i64 s], .slice A gs.length c] w (SomeInts (Ver.setV p s gs) (Ver.setE p s gs) w) := by
  by_cases hv : Ver.vP p s
  · have e1 := Lib.hid (Ver.vB_true.2 hv)
    have HG := Lib.hid hg
    have HV := Lib.hid hv
    by_cases hgs : Ver.glsP p gs
    · have hsE : Hid (∀ k : Nat, k = 10001 → Ver.setE p s gs = if (Ver.upto p s gs k).length = 0 then 3 else 0) := fun k e => by
        subst e
        unfold Ver.setE
        rw [if_neg (fun h => h hv), if_neg (fun h => h hgs)]
      have hsV : Hid (∀ k : Nat, k = 10001 → Ver.setV p s gs = Ver.upto p s gs k) := fun k e => by
        unfold Ver.setV
        rw [hsE.out k e]
        subst e
        by_cases h0 : (Ver.upto p s gs 10001).length = 0
        · rw [if_pos h0, if_neg (by omega)]
          exact (List.eq_nil_of_length_eq_zero h0).symm
        · rw [if_neg h0]; rfl
      have e2 := Lib.hid (Ver.glsB_true.2 hgs)
      have h6 := hgs.1.2
      have hgl : Hid (∀ (j : Nat) (g : Int × Int), gs[j]? = some g → Ver.glP p g) := fun j g hj => hgs.2 g (List.mem_of_getElem? hj)
      unfold Ver.vP at hv
      clear hg hgs
      go_enter Try.func36, Try.ntmps36
      go_wp2_with fail
      refine (IsVernier_any p s _).mono ?_
      rintro e w1 ⟨rfl, hb1⟩
      have hB1 : Below w.heap.size w w1 := Below.trans (by (repeat' (first | (with_reducible exact Below.refl _ _) | (with_reducible assumption) | (with_reducible refine Below.alloc ?_ ?_ _) | (with_reducible refine below_drewN ?_ _) | (with_reducible refine Below.drew ?_) | (with_reducible refine Below.setCell ?_ ?_ _) | go_size))) (hb1.mono (by first | omega | (simp; done) | (simp; omega))); have hz1 := hb1.size; try simp at hz1
      have hl1v : w.heap.size < w1.heap.size := (by omega); have hx1v0 : w1.cell? ⟨w.heap.size, 0, none⟩ = some (.int .i64 (p)) := (by rw [(hb1.cell (by first | omega | (simp; done) | (simp; omega)))]; (repeat (rw [World.cell?_alloc_lt _ _ _ (by first | omega | (simp; done) | (simp; omega))])); go_cell); have hx1v1 : w1.cell? ⟨w.heap.size, 1, none⟩ = some (.int .i64 (s)) := (by rw [(hb1.cell (by first | omega | (simp; done) | (simp; omega)))]; (repeat (rw [World.cell?_alloc_lt _ _ _ (by first | omega | (simp; done) | (simp; omega))])); go_cell)
      rw [e1.out]
      go_wp2_with fail
      refine (AreGlances_any p s A c gs _ HV.out (by omega) (gls_keep HG.out hB1)).mono ?_
      rintro e w2 ⟨rfl, hb2⟩
      have hB2 : Below w.heap.size w w2 := Below.trans (by (repeat' (first | (with_reducible exact Below.refl _ _) | (with_reducible assumption) | (with_reducible refine Below.alloc ?_ ?_ _) | (with_reducible refine below_drewN ?_ _) | (with_reducible refine Below.drew ?_) | (with_reducible refine Below.setCell ?_ ?_ _) | go_size))) (hb2.mono (by first | omega | (simp; done) | (simp; omega))); have hz2 := hb2.size; try simp at hz2
      have hl2v : w.heap.size < w2.heap.size := (by omega); have hx2v0 : w2.cell? ⟨w.heap.size, 0, none⟩ = some (.int .i64 (p)) := (by rw [(hb2.cell (by first | omega | (simp; done) | (simp; omega)))]; (repeat (rw [World.cell?_alloc_lt _ _ _ (by first | omega | (simp; done) | (simp; omega))])); go_cell); have hx2v1 : w2.cell? ⟨w.heap.size, 1, none⟩ = some (.int .i64 (s)) := (by rw [(hb2.cell (by first | omega | (simp; done) | (simp; omega)))]; (repeat (rw [World.cell?_alloc_lt _ _ _ (by first | omega | (simp; done) | (simp; omega))])); go_cell)
      rw [e2.out]
      go_wp2_with fail
      clear hx1v0 hx1v1 hl1v hb1 hB1 hz1 hb2
      go_loopw [6, 7] (fun v x wx => ∃ k : Nat, (k : Int) ≤ 10001 ∧ x = .int .i64 k ∧ Below w.heap.size w wx ∧ w.heap.size < wx.heap.size ∧ wx.cell? ⟨w.heap.size, 0, none⟩ = some (.int .i64 p) ∧ wx.cell? ⟨w.heap.size, 1, none⟩ = some (.int .i64 s) ∧
        wx.ownsRow (w.heap.size + 1) 3 1 v (Ver.upto p s gs k).length ((Ver.upto p s gs k).map (Value.int .i64))) (fun _ x _ => (10001 - intOf x).toNat)
      case atStart => exact ⟨0, by omega, rfl, hB2, by omega, hx2v0, hx2v1, own_nil _ _⟩
      case round =>
        clear hx2v0 hx2v1 hl2v hB2 hz2
        obtain ⟨k, hk, rfl, hB, hz, p0, p1, hown⟩ := hrel
        have hk0 : (0 : Int) ≤ (k : Int) := Int.natCast_nonneg k
        have HO := Lib.hid hown
        clear hown
        by_cases hlt : (k : Int) ≤ 10000
        · go_wp2_with fail
          obtain ⟨wq, rfl⟩ : ∃ wq, wq = wr := ⟨_, rfl⟩
          go_loopw [8, 9] (fun b x wy => ∃ j : Nat, (j : Int) ≤ gs.length ∧ x = .int .i64 j ∧ b = .bool (Ver.pre p s gs k j) ∧ Below w.heap.size w wy ∧ w.heap.size < wy.heap.size ∧ wy.cell? ⟨w.heap.size, 0, none⟩ = some (.int .i64 p) ∧ wy.cell? ⟨w.heap.size, 1, none⟩ = some (.int .i64 s) ∧
            Hid (wy.ownsRow (w.heap.size + 1) 3 1 u6 (Ver.upto p s gs k).length ((Ver.upto p s gs k).map (Value.int .i64)))) (fun _ x _ => (gs.length - intOf x).toNat)
          case atStart => exact ⟨0, by omega, rfl, rfl, hB, hz, p0, p1, HO⟩
          case round =>
            clear hB hz p0 p1 HO
            obtain ⟨j, hj, rfl, rfl, hB, hz, p0, p1, HO⟩ := hrel
            have hj0 := Int.natCast_nonneg j
            by_cases hjl : (j : Int) < gs.length
            · have hjn : j < gs.length := by omega
              have hgj : gs[j]? = some gs[j] := List.getElem?_eq_getElem hjn
              have hgp := hgl.out j _ hgj
              have hps := Lib.hid (Ver.pre_succ (p := p) (s := s) (n := k) hgj)
              cases hpre : Ver.pre p s gs k j
              · have hnx : Hid (Ver.pre p s gs k (j + 1) = false) := by rw [hps.out, hpre]; rfl
                clear hps hpre hgp
                go_wp2_with fail
                go_quiet (fail)
                go_wp2_with fail
                go_roundw
                case rel => exact ⟨j + 1, by omega, by go_num, by rw [hnx.out], below_drewN hB _, by simpa using hz, by simpa using p0, by simpa using p1, own_below HO.out (below_drewN (Below.refl _ _) _)⟩
                case measure => simp [intOf]; omega
              · obtain ⟨b, off, rfl, hbB, hcc⟩ := HG.out (by omega)
                obtain ⟨c0, c1⟩ := hcc j _ hgj
                have d0 := (hB.cell (p := ⟨b, off + j * 2, none⟩) hbB).trans c0
                have d1 := (hB.cell (p := ⟨b, off + j * 2 + 1, none⟩) hbB).trans c1
                have hbr : b < wr.heap.size := by have := hB.size; omega
                clear c0 c1 hgj hcc HG
                generalize gs[j] = g at *
                have hpn : ¬ p = 0 := by omega
                have hdn := Int.ediv_nonneg (a := (k : Int)) (b := p) hk0 (by omega)
                have hdl := Int.ediv_le_self (a := (k : Int)) p hk0
                have hwq : IntKind.i64.wrap ((k : Int) / p) = (k : Int) / p := IntWalk.i64_in _ (by omega)
                have hwt : (k : Int).tdiv p = (k : Int) / p := Int.tdiv_eq_ediv_of_nonneg hk0
                unfold Ver.glP at hgp
                by_cases hm : (k : Int) / p = g.1
                · have hnx : Hid (Ver.pre p s gs k (j + 1) = Ver.fitB p s k g.2) := by rw [hps.out, hpre, decide_eq_true hm]; rfl
                  have hmB : ((k : Int) / p == g.1) = true := by simpa using hm
                  clear hps hpre hm
                  have HBB := Lib.hid hB
                  clear hB
                  go_wp2_with fail
                  go_region_held3 (fun w' => Below wr.heap.size wr w' ∧ (w'.cell? ⟨w.heap.size, 0, none⟩ = some (.int .i64 p) ∧ w'.cell? ⟨w.heap.size, 1, none⟩ = some (.int .i64 s)) ∧ (w'.cell? ⟨b, off + j * 2, none⟩ = some (.int .i64 g.1) ∧ w'.cell? ⟨b, off + j * 2 + 1, none⟩ = some (.int .i64 g.2)))
                    (first | exact ⟨Below.refl _ _, ⟨p0, p1⟩, d0, d1⟩ | exact ⟨(Below.refl _ _).drew, ⟨p0, p1⟩, d0, d1⟩ | (with_reducible assumption))
                    (first | (go_at_call 76; refine (Fits_any p s k g.2 _ HV.out hk0 (by omega) hgp.2.1 hgp.2.2).mono ?_; rintro e w3 ⟨rfl, hb3⟩; have hS := order_keep2 (by with_reducible assumption) hz hbr hb3))
                  obtain ⟨q, ⟨k0, k1⟩, _, _⟩ : Below wr.heap.size wr w3 ∧ _ := by assumption
                  have hB3 := HBB.out.trans (q.mono HBB.out.size)
                  have hz3 : w.heap.size < w3.heap.size := by have := q.size; omega
                  have HO3 := Lib.hid (own_below HO.out q)
                  clear q p0 p1 d0 d1 hmB hwq hwt
                  go_wp2_with fail
                  go_roundw
                  case rel => exact ⟨j + 1, by omega, by go_num, by rw [hnx.out], hB3, hz3, k0, k1, HO3⟩
                  case measure => simp [intOf]; omega
                · have hnx : Hid (Ver.pre p s gs k (j + 1) = false) := by rw [hps.out, hpre, decide_eq_false hm]; rfl
                  have hmB : ((k : Int) / p == g.1) = false := by simpa using hm
                  clear hps hpre hm
                  go_wp2_with fail
                  go_quiet (fail)
                  go_wp2_with fail
                  go_roundw
                  case rel => exact ⟨j + 1, by omega, by go_num, by rw [hnx.out], below_drewN hB _, by simpa using hz, by simpa using p0, by simpa using p1, own_below HO.out (below_drewN (Below.refl _ _) _)⟩
                  case measure => simp [intOf]; omega
            · have e : gs.length ≤ j := by omega
              have hpa := Lib.hid (Ver.pre_all (p := p) (s := s) (n := k) e)
              have hul := Ver.upto_len p s gs k
              rw [hpa.out]
              cases hall : Ver.allB p s gs k
              · have hno : Hid (¬ Ver.allB p s gs k = true) := by simp [hall, Hid]
                clear hall hpa
                go_wp2_with fail
                go_roundw
                case rel => exact ⟨k + 1, by omega, by go_num, hB, hz, p0, p1, by rw [Ver.upto_no hno.out]; exact HO.out⟩
                case measure => simp [intOf]; omega
              · have hyes : Hid (Ver.allB p s gs k = true) := by simp [hall, Hid]
                clear hall hpa
                go_wp2_with (at_builtin; refine wpList_push rfl (.tmp 51) (.tmp 53) rfl (k : Int) (w.heap.size + 1) u6 _ _ rfl rfl HO.out (by omega) (by omega) ?_; intro v' w3 hown3 hb3; have HO3 := Lib.hid hown3; clear hown3)
                go_roundw
                case rel =>
                  refine ⟨k + 1, by omega, by go_num, hB.trans (hb3.mono (by omega)), by have := hb3.size; omega, (hb3.cell (by simp)).trans p0, (hb3.cell (by simp)).trans p1, ?_⟩
                  rw [Ver.upto_yes hyes.out]
                  simpa using HO3.out
                case measure => simp [intOf]; omega
        · have ek : k = 10001 := by omega
          have hE := Lib.hid (hsE.out k ek)
          have hV := Lib.hid (hsV.out k ek)
          clear ek hsE hsV
          generalize Ver.upto p s gs k = l at *
          have hB1 := hB
          rcases HO.out.2 with ⟨hu, hn⟩ | ⟨g, cap, cur, hu, _⟩
          · have e0 := List.eq_nil_of_length_eq_zero hn
            have HU := Lib.hid hu
            clear hu hn
            subst e0
            rw [HU.out]
            go_wp2_with fail
            go_ret2
            refine ⟨.slice none 0 0, ?_, ?_, hB1⟩
            · rw [hE.out]; rfl
            · rw [hV.out]; exact own_nil _ _
          · have HU := Lib.hid hu
            clear hu
            by_cases hl0 : l.length = 0
            · have e0 := List.eq_nil_of_length_eq_zero hl0
              subst e0
              rw [HU.out]
              go_wp2_with fail
              go_ret2
              refine ⟨.slice none 0 0, ?_, ?_, hB1⟩
              · rw [hE.out]; rfl
              · rw [hV.out]; exact own_nil _ _
            · have hb0 : ((l.length : Int) == 0) = false := by rw [beq_eq_false_iff_ne]; omega
              rw [HU.out]
              go_wp2_with fail
              go_ret2
              refine ⟨.slice (some ⟨g, 0, none⟩) l.length cap, ?_, ?_, hB1⟩
              · rw [hE.out, if_neg hl0]; rfl
              · rw [hV.out]; have := HO.out.mono (base' := w.heap.size) (by omega); rw [HU.out] at this; exact this
    · have hE := Lib.hid (Ver.setE_arg hv hgs)
      have hV := Lib.hid (Ver.setV_err (p := p) (s := s) (gs := gs) (fun h => hgs h.2))
      have e2 : Hid (Ver.glsB p gs = false) := by
        cases hb : Ver.glsB p gs
        · rfl
        · exact absurd (Ver.glsB_true.1 hb) hgs
      clear hg hv hgs
      go_enter Try.func36, Try.ntmps36
      go_wp2_with fail
      refine (IsVernier_any p s _).mono ?_
      rintro e w1 ⟨rfl, hb1⟩
      have hB1 : Below w.heap.size w w1 := Below.trans (by (repeat' (first | (with_reducible exact Below.refl _ _) | (with_reducible assumption) | (with_reducible refine Below.alloc ?_ ?_ _) | (with_reducible refine below_drewN ?_ _) | (with_reducible refine Below.drew ?_) | (with_reducible refine Below.setCell ?_ ?_ _) | go_size))) (hb1.mono (by first | omega | (simp; done) | (simp; omega))); have hz1 := hb1.size; try simp at hz1
      have hl1v : w.heap.size < w1.heap.size := (by omega); have hx1v0 : w1.cell? ⟨w.heap.size, 0, none⟩ = some (.int .i64 (p)) := (by rw [(hb1.cell (by first | omega | (simp; done) | (simp; omega)))]; (repeat (rw [World.cell?_alloc_lt _ _ _ (by first | omega | (simp; done) | (simp; omega))])); go_cell); have hx1v1 : w1.cell? ⟨w.heap.size, 1, none⟩ = some (.int .i64 (s)) := (by rw [(hb1.cell (by first | omega | (simp; done) | (simp; omega)))]; (repeat (rw [World.cell?_alloc_lt _ _ _ (by first | omega | (simp; done) | (simp; omega))])); go_cell)
      rw [e1.out]
      go_wp2_with fail
      refine (AreGlances_any p s A c gs _ HV.out (by omega) (gls_keep HG.out hB1)).mono ?_
      rintro e w2 ⟨rfl, hb2⟩
      have hB2 : Below w.heap.size w w2 := Below.trans (by (repeat' (first | (with_reducible exact Below.refl _ _) | (with_reducible assumption) | (with_reducible refine Below.alloc ?_ ?_ _) | (with_reducible refine below_drewN ?_ _) | (with_reducible refine Below.drew ?_) | (with_reducible refine Below.setCell ?_ ?_ _) | go_size))) (hb2.mono (by first | omega | (simp; done) | (simp; omega))); have hz2 := hb2.size; try simp at hz2
      rw [e2.out]
      go_wp2_with fail
      go_ret2
      exact ⟨.slice none 0 0, by rw [hE.out]; rfl, by rw [hV.out]; exact own_nil _ _, hB2⟩
  · have hE := Lib.hid (Ver.setE_ver (gs := gs) hv)
    have hV := Lib.hid (Ver.setV_err (p := p) (s := s) (gs := gs) (fun h => hv h.1))
    have e1 := Lib.hid (Ver.vB_false.2 hv)
    clear hg hv
    go_enter Try.func36, Try.ntmps36
    go_wp2_with fail
    refine (IsVernier_any p s _).mono ?_
    rintro e w1 ⟨rfl, hb1⟩
    have hB1 : Below w.heap.size w w1 := Below.trans (by (repeat' (first | (with_reducible exact Below.refl _ _) | (with_reducible assumption) | (with_reducible refine Below.alloc ?_ ?_ _) | (with_reducible refine below_drewN ?_ _) | (with_reducible refine Below.drew ?_) | (with_reducible refine Below.setCell ?_ ?_ _) | go_size))) (hb1.mono (by first | omega | (simp; done) | (simp; omega))); have hz1 := hb1.size; try simp at hz1
    rw [e1.out]
    go_wp2_with fail
    go_ret2
    exact ⟨.slice none 0 0, by rw [hE.out]; rfl, by rw [hV.out]; exact own_nil _ _, hB1⟩
end Go.Proofs.Ytfjcmmdfipppoaa
