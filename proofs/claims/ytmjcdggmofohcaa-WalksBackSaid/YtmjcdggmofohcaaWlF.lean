/- Walks: the sweep of elbows, by the program. -/
import Derived.Test.YtmjcdggmofohcaaWlK
namespace Go.Proofs.Ytmjcdggmofohcaa
open Go.RowKit
namespace Wl
theorem dbl4 (a b c d : Pt) : dbl [a, b, c, d] = quad a b c d := by
  unfold quad
  simp [dbl, dblTo, ptAt]
theorem cr_bd {a b : Pt} (h1 : Geo.sm a) (h2 : Geo.sm b) : -2000000 ≤ cr a b ∧ cr a b ≤ 2000000 := by
  unfold Geo.sm at h1 h2
  have m1 := mul_bd (x := 1000) (y := 1000) h1.1.1 h1.1.2 h2.2.1 h2.2.2
  have m2 := mul_bd (x := 1000) (y := 1000) h1.2.1 h1.2.2 h2.1.1 h2.1.2
  unfold cr
  omega
theorem quad_bd {a b c d : Pt} (h1 : Geo.sm a) (h2 : Geo.sm b) (h3 : Geo.sm c) (h4 : Geo.sm d) : -8000000 ≤ quad a b c d ∧ quad a b c d ≤ 8000000 := by
  have := cr_bd h1 h2; have := cr_bd h2 h3; have := cr_bd h3 h4; have := cr_bd h4 h1
  unfold quad
  omega
end Wl
theorem prs4_new (w : World) (p1 p2 p3 p4 : Wl.Pt) : Prs (w.alloc (.cells #[.int .i64 p1.1, .int .i64 p1.2, .int .i64 p2.1, .int .i64 p2.2, .int .i64 p3.1, .int .i64 p3.2, .int .i64 p4.1, .int .i64 p4.2] 28)) (w.alloc (.cells #[.int .i64 p1.1, .int .i64 p1.2, .int .i64 p2.1, .int .i64 p2.2, .int .i64 p3.1, .int .i64 p3.2, .int .i64 p4.1, .int .i64 p4.2] 28)).heap.size (some ⟨w.heap.size, 0, none⟩) [p1, p2, p3, p4] := fun _ => by
  have hb := BoxS.new w 28 #[.int .i64 p1.1, .int .i64 p1.2, .int .i64 p2.1, .int .i64 p2.2, .int .i64 p3.1, .int .i64 p3.2, .int .i64 p4.1, .int .i64 p4.2]
  refine ⟨w.heap.size, 0, rfl, by simp, fun k p hk => ?_⟩
  match k, hk with
  | 0, hk => obtain rfl : p1 = p := by simpa using hk
             exact ⟨hb.cell 0 rfl, hb.cell 1 rfl⟩
  | 1, hk => obtain rfl : p2 = p := by simpa using hk
             exact ⟨hb.cell 2 rfl, hb.cell 3 rfl⟩
  | 2, hk => obtain rfl : p3 = p := by simpa using hk
             exact ⟨hb.cell 4 rfl, hb.cell 5 rfl⟩
  | 3, hk => obtain rfl : p4 = p := by simpa using hk
             exact ⟨hb.cell 6 rfl, hb.cell 7 rfl⟩
  | k + 4, hk => simp at hk
set_option maxRecDepth 100000 in
set_option maxHeartbeats 8000000 in
theorem sweepW_any (t : Wl.Trk) (ws : List Wl.Pt) (es : List Int) (A Aw Ae : Option Addr) (c cw ce : Nat) (hs : ∀ k, k < t.ps.length → Geo.sm (Wl.ptAt t.ps k)) (hsw : ∀ k, k < ws.length → Geo.sm (Wl.ptAt ws k)) (hin : ∀ k, k < es.length → 0 ≤ Wl.esAt es k ∧ Wl.esAt es k < t.ps.length) (hl : t.ps.length ≤ 1000000000) (hle : es.length = ws.length) (hlw : ws.length ≤ 8) (w : World) (hP : Prs w w.heap.size A t.ps) (hQ : Prs w w.heap.size Aw ws) (hE : Ints w w.heap.size (.slice Ae es.length ce) es) :
    Calls Try.prog 58 #[.agg (mcV t A c Aw ws.length cw), .slice Ae es.length ce] w fun e w' => e = .returned (.int .i64 (Wl.sweepV t ws es)) ∧ Below w.heap.size w w' := by
  have HSV : Hid (Wl.sweepV t ws es = Wl.swTo t ws es es.length) := rfl
  have HS0 : Hid (Wl.swTo t ws es 0 = 0) := rfl
  have HSS : Hid (∀ k, k < es.length → Wl.swTo t ws es (k + 1) = Wl.swTo t ws es k + Wl.quad (Wl.ptAt t.ps (Wl.esAt es k).toNat) (Wl.ptAt ws k) (Wl.ptAt ws ((k + 1) % es.length)) (Wl.ptAt t.ps (Wl.esAt es ((k + 1) % es.length)).toNat)) := fun k hk => by
    show Wl.swTo t ws es k + Wl.quad _ _ _ _ = _
    unfold Wl.eAt
    rw [← hle, Nat.mod_eq_of_lt hk]
    rfl
  have HIN := Lib.hid hin
  have HSM := Lib.hid hs
  have HSW := Lib.hid hsw
  have HP := Lib.hid hP
  have HQ := Lib.hid hQ
  have HE := Lib.hid hE
  have HL := Lib.hid hle
  have hl8 : es.length ≤ 8 := by omega
  have hmo : Try.prog.follows .mixedOrders = true := by kernel_rfl
  obtain ⟨ps, cl, lo, hi⟩ := t
  unfold mcV
  dsimp only at *
  generalize Wl.sweepV ⟨ps, cl, lo, hi⟩ ws es = R at *
  generalize Wl.swTo ⟨ps, cl, lo, hi⟩ ws es = SW at *
  clear hP hQ hE hle hs hsw hin
  go_enter Try.func58, Try.ntmps58
  go_wp2_with fail
  have bS1 := BoxS.new w 70 #[.slice A ps.length c, .int .i64 cl, .int .i64 lo, .int .i64 hi, .slice Aw ws.length cw]
  have hB1 : Below w.heap.size w (w.alloc (.cells #[.slice A ps.length c, .int .i64 cl, .int .i64 lo, .int .i64 hi, .slice Aw ws.length cw] 70)) := by (repeat' (first | (with_reducible exact Below.refl _ _) | (with_reducible assumption) | (with_reducible refine Below.alloc ?_ ?_ _) | (with_reducible refine Below.drew ?_) | (with_reducible refine Below.setCell ?_ ?_ _) | go_size | (exact (by simp)) | omega))
  generalize World.alloc w _ = w1 at *
  try go_wp2_with fail
  go_loopg [5, 11] es.length (fun g x5 x11 wx => ∃ k : Nat, Hid (k + g = es.length) ∧ (k : Int) ≤ es.length ∧ x11 = .int .i64 (k : Int) ∧ x5 = .int .i64 (SW k) ∧ Hid (-(8000000 * (k : Int)) ≤ SW k ∧ SW k ≤ 8000000 * (k : Int)) ∧ Below w.heap.size w wx ∧ BoxS wx w.heap.size 70 #[.slice A ps.length c, .int .i64 cl, .int .i64 lo, .int .i64 hi, .slice Aw ws.length cw])
  case atStart => exact ⟨0, by simp [Hid], by omega, rfl, by rw [HS0.out], by unfold Hid; rw [HS0.out]; omega, hB1, bS1⟩
  case round =>
    clear hB1 bS1
    obtain ⟨k, hk, hk1, rfl, rfl, hbd, hB, bS⟩ := hrel
    have hk0 := Int.natCast_nonneg k
    by_cases hlt : (k : Int) < es.length
    · have hkn : k < es.length := by omega
      have hm : (k + 1) % es.length < es.length := Nat.mod_lt _ (by omega)
      have hkw : k < ws.length := by have := HL.out; omega
      have hmw : (k + 1) % es.length < ws.length := by have := HL.out; omega
      have HS := Lib.hid (HSS.out k hkn)
      obtain ⟨i0, i1⟩ := HIN.out k hkn
      obtain ⟨j0, j1⟩ := HIN.out _ hm
      have hek : es[k]? = some (Wl.esAt es k) := by unfold Wl.esAt; rw [List.getElem?_eq_getElem hkn]; rfl
      have hem : es[(k + 1) % es.length]? = some (Wl.esAt es ((k + 1) % es.length)) := by unfold Wl.esAt; rw [List.getElem?_eq_getElem hm]; rfl
      have hwk : ws[k]? = some (Wl.ptAt ws k) := by unfold Wl.ptAt; rw [List.getElem?_eq_getElem hkw]; rfl
      have hwm : ws[(k + 1) % es.length]? = some (Wl.ptAt ws ((k + 1) % es.length)) := by unfold Wl.ptAt; rw [List.getElem?_eq_getElem hmw]; rfl
      rcases HE.out with ⟨_, e⟩ | ⟨be, oe, cape, e, hbe, hce⟩
      · subst e; simp at hkn
      · injection e with eA _ ec
        subst eA ec
        have z0 := hce k _ hek
        have z1 := hce _ _ hem
        obtain ⟨bw, ow, rfl, hbw, hcw⟩ := HQ.out (by omega)
        obtain ⟨y0, y1⟩ := hcw k _ hwk
        obtain ⟨y2, y3⟩ := hcw _ _ hwm
        obtain ⟨bp, op, rfl, hbp, hcp⟩ := HP.out (by omega)
        have hr1 : ((k : Int) + 1) % (es.length : Int) = (((k + 1) % es.length : Nat) : Int) := by rw [Int.natCast_emod]; rfl
        have hr2 : ((k : Int) + 1).tmod (es.length : Int) = (((k + 1) % es.length : Nat) : Int) := by rw [Int.tmod_eq_emod_of_nonneg (by omega)]; exact hr1
        have hs2 := HSW.out k hkw
        have hs3 := HSW.out _ hmw
        clear hce hcw hek hem hwk hwm HSS HIN hr1
        generalize Wl.esAt es ((k + 1) % es.length) = ey at *
        generalize Wl.esAt es k = ex at *
        obtain ⟨i, hi'⟩ : ∃ i : Nat, ex = i := ⟨ex.toNat, by omega⟩
        obtain ⟨j, hj'⟩ : ∃ j : Nat, ey = j := ⟨ey.toNat, by omega⟩
        subst hi' hj'
        rw [Int.toNat_natCast, Int.toNat_natCast] at HS
        have hin : i < ps.length := by omega
        have hjn : j < ps.length := by omega
        have hs1 := HSM.out i hin
        have hs4 := HSM.out j hjn
        have hpi : ps[i]? = some (Wl.ptAt ps i) := by unfold Wl.ptAt; rw [List.getElem?_eq_getElem hin]; rfl
        have hpj : ps[j]? = some (Wl.ptAt ps j) := by unfold Wl.ptAt; rw [List.getElem?_eq_getElem hjn]; rfl
        obtain ⟨v0, v1⟩ := hcp i _ hpi
        obtain ⟨v2, v3⟩ := hcp j _ hpj
        generalize (k + 1) % es.length = r at *
        have hqb := Wl.quad_bd hs1 hs2 hs3 hs4
        have HD : Hid (∀ W, Prs W W.heap.size (some ⟨W.heap.size - 1, 0, none⟩) [] → True) := fun _ _ => trivial
        have HDB : Hid (∀ A' c' W, Prs W W.heap.size A' [Wl.ptAt ps i, Wl.ptAt ws k, Wl.ptAt ws r, Wl.ptAt ps j] → Calls Try.prog 52 #[.slice A' 4 c'] W fun e w' => e = .returned (.int .i64 (Wl.quad (Wl.ptAt ps i) (Wl.ptAt ws k) (Wl.ptAt ws r) (Wl.ptAt ps j))) ∧ Below W.heap.size W w') := fun A' c' W h => by
          have := doubledW_any A' c' [Wl.ptAt ps i, Wl.ptAt ws k, Wl.ptAt ws r, Wl.ptAt ps j] (by
            intro p hp
            simp only [List.mem_cons, List.not_mem_nil, or_false] at hp
            rcases hp with rfl | rfl | rfl | rfl
            · exact hs1
            · exact hs2
            · exact hs3
            · exact hs4) (by simp) W h
          rw [Wl.dbl4] at this
          exact this
        have KC : Hid (∀ W', Below wr.heap.size wr W' → (W'.cell? ⟨w.heap.size, 0, none⟩ = some (.slice (some ⟨bp, op, none⟩) ps.length c) ∧ W'.cell? ⟨w.heap.size, 4, none⟩ = some (.slice (some ⟨bw, ow, none⟩) ws.length cw)) ∧ (W'.cell? ⟨be, oe + k, none⟩ = some (.int .i64 (i : Int)) ∧ W'.cell? ⟨be, oe + r, none⟩ = some (.int .i64 (j : Int))) ∧ ((W'.cell? ⟨bp, op + i * 2, none⟩ = some (.int .i64 (Wl.ptAt ps i).1) ∧ W'.cell? ⟨bp, op + i * 2 + 1, none⟩ = some (.int .i64 (Wl.ptAt ps i).2)) ∧ W'.cell? ⟨bp, op + j * 2, none⟩ = some (.int .i64 (Wl.ptAt ps j).1) ∧ W'.cell? ⟨bp, op + j * 2 + 1, none⟩ = some (.int .i64 (Wl.ptAt ps j).2)) ∧ (W'.cell? ⟨bw, ow + k * 2, none⟩ = some (.int .i64 (Wl.ptAt ws k).1) ∧ W'.cell? ⟨bw, ow + k * 2 + 1, none⟩ = some (.int .i64 (Wl.ptAt ws k).2)) ∧ W'.cell? ⟨bw, ow + r * 2, none⟩ = some (.int .i64 (Wl.ptAt ws r).1) ∧ W'.cell? ⟨bw, ow + r * 2 + 1, none⟩ = some (.int .i64 (Wl.ptAt ws r).2)) := fun W' h => by
          have h2 := hB.trans (h.mono hB.size)
          exact ⟨⟨(bS.below h).cell 0 rfl, (bS.below h).cell 4 rfl⟩, ⟨(h2.cell (p := ⟨be, _, none⟩) hbe).trans z0, (h2.cell (p := ⟨be, _, none⟩) hbe).trans z1⟩, ⟨⟨(h2.cell (p := ⟨bp, _, none⟩) hbp).trans v0, (h2.cell (p := ⟨bp, _, none⟩) hbp).trans v1⟩, (h2.cell (p := ⟨bp, _, none⟩) hbp).trans v2, (h2.cell (p := ⟨bp, _, none⟩) hbp).trans v3⟩, ⟨(h2.cell (p := ⟨bw, _, none⟩) hbw).trans y0, (h2.cell (p := ⟨bw, _, none⟩) hbw).trans y1⟩, (h2.cell (p := ⟨bw, _, none⟩) hbw).trans y2, (h2.cell (p := ⟨bw, _, none⟩) hbw).trans y3⟩
        have z0 := (hB.cell (p := ⟨be, _, none⟩) hbe).trans z0
        have hbr : be < wr.heap.size := by have := hB.size; omega
        clear hcp hpi hpj v0 v1 v2 v3 y0 y1 y2 y3 z1 HD hs1 hs2 hs3 hs4 HSM HSW
        generalize Wl.ptAt ps i = p1 at *
        generalize Wl.ptAt ps j = p4 at *
        generalize Wl.ptAt ws k = p2 at *
        generalize Wl.ptAt ws r = p3 at *
        generalize Wl.quad p1 p2 p3 p4 = qv at *
        have hw1 : IntKind.i64.wrap ((k : Int) + 1) = (k : Int) + 1 := IntWalk.i64_in _ (by omega)
        have hw2 : IntKind.i64.wrap (r : Int) = (r : Int) := IntWalk.i64_in _ (by omega)
        have hw3 : IntKind.i64.wrap (SW k + qv) = SW k + qv := IntWalk.i64_in _ (by have := hbd.out; omega)
        have hne : ¬ (es.length : Int) = 0 := by omega
        have hne2 : ¬ es.length = 0 := by omega
        have hne3 : ¬ es = [] := by intro e; subst e; simp at hne2
        have HBD : Hid (-(8000000 * ((k + 1 : Nat) : Int)) ≤ SW (k + 1) ∧ SW (k + 1) ≤ 8000000 * ((k + 1 : Nat) : Int)) := by
          have := hbd.out
          unfold Hid
          rw [HS.out]
          omega
        have d1 : decide ((k : Int) < 0) = false := decide_eq_false (by omega)
        have d2 : decide ((es.length : Int) ≤ (k : Int)) = false := decide_eq_false (by omega)
        have d3 : decide ((ws.length : Int) ≤ (k : Int)) = false := decide_eq_false (by omega)
        have d4 : decide (es.length ≤ k) = false := decide_eq_false (by omega)
        have d5 : decide (ws.length ≤ k) = false := decide_eq_false (by omega)
        have f1 : decide ((r : Int) < 0) = false := decide_eq_false (by omega)
        have f2 : decide ((es.length : Int) ≤ (r : Int)) = false := decide_eq_false (by omega)
        have f3 : decide ((ws.length : Int) ≤ (r : Int)) = false := decide_eq_false (by omega)
        have f4 : decide (es.length ≤ r) = false := decide_eq_false (by omega)
        have f5 : decide (ws.length ≤ r) = false := decide_eq_false (by omega)
        have g2 : decide ((ps.length : Int) ≤ (i : Int)) = false := decide_eq_false (by omega)
        have g4 : decide (ps.length ≤ i) = false := decide_eq_false (by omega)
        have h2 : decide ((ps.length : Int) ≤ (j : Int)) = false := decide_eq_false (by omega)
        have h4 : decide (ps.length ≤ j) = false := decide_eq_false (by omega)
        have g1 : decide ((i : Int) < 0) = false := decide_eq_false (by omega)
        have h1 : decide ((j : Int) < 0) = false := decide_eq_false (by omega)
        have q0 : Below wr.heap.size wr wr.drew := (Below.refl _ _).drew
        clear hqb hbd
        go_upto_region 6 with fail
        clear z0
        refine (wpIn_wide (n := 4)).1 ?_
        refine wpIn_region_held (fun W' => Below wr.heap.size wr W') 40 hmo ?_
        refine wpHeldIn_take (i := 0) (v := ?_) (plain_of (by kernel_rfl)) rfl (by kernel_rfl) (fun _ _ _ h => h) (yieldsSoIn_of (by kernel_rfl) ?_ (fun _ => rfl)) q0 ?_; rotate_left; focus (intro wq hw; clear hw; go_simp; try (with_reducible rfl))
        refine wpHeldIn_take (i := 1) (v := ?_) (plain_of (by kernel_rfl)) rfl (by kernel_rfl) (fun _ _ _ h => h) (yieldsSoIn_of (by kernel_rfl) ?_ (fun _ => rfl)) q0 ?_; rotate_left; focus (intro wq hw; clear hw; go_simp; try (with_reducible rfl))
        refine wpHeldIn_take (i := 2) (v := ?_) (plain_of (by kernel_rfl)) rfl (by kernel_rfl) (fun _ _ _ h => h) (yieldsSoIn_of (by kernel_rfl) ?_ (fun _ => rfl)) q0 ?_; rotate_left; focus (intro wq hw; clear hw; go_simp; try (with_reducible rfl))
        refine wpHeldIn_take (i := 3) (v := ?_) (plain_of (by kernel_rfl)) rfl (by kernel_rfl) (fun _ _ _ h => h) (yieldsSoIn_of (by kernel_rfl) ?_ (fun _ => rfl)) q0 ?_; rotate_left; focus (intro wq hw; have kq := KC.out wq hw; clear hw; go_simp; try (with_reducible rfl))
        refine wpHeldIn_take (i := 4) (v := ?_) (plain_of (by kernel_rfl)) rfl (by kernel_rfl) (fun _ _ _ h => h) (yieldsSoIn_of (by kernel_rfl) ?_ (fun _ => rfl)) q0 ?_; rotate_left; focus (intro wq hw; clear hw; go_simp; try (with_reducible rfl))
        refine wpHeldIn_take (i := 5) (v := ?_) (plain_of (by kernel_rfl)) rfl (by kernel_rfl) (fun _ _ _ h => h) (yieldsSoIn_of (by kernel_rfl) ?_ (fun _ => rfl)) q0 ?_; rotate_left; focus (intro wq hw; clear hw; go_simp; try (with_reducible rfl))
        refine wpHeldIn_take (i := 6) (v := ?_) (plain_of (by kernel_rfl)) rfl (by kernel_rfl) (fun _ _ _ h => h) (yieldsSoIn_of (by kernel_rfl) ?_ (fun _ => rfl)) q0 ?_; rotate_left; focus (intro wq hw; have kq := KC.out wq hw; clear hw; go_simp; try (with_reducible rfl))
        refine wpHeldIn_take (i := 7) (v := ?_) (plain_of (by kernel_rfl)) rfl (by kernel_rfl) (fun _ _ _ h => h) (yieldsSoIn_of (by kernel_rfl) ?_ (fun _ => rfl)) q0 ?_; rotate_left; focus (intro wq hw; clear hw; go_simp; try (with_reducible rfl))
        refine wpHeldIn_take (i := 8) (v := ?_) (plain_of (by kernel_rfl)) rfl (by kernel_rfl) (fun _ _ _ h => h) (yieldsSoIn_of (by kernel_rfl) ?_ (fun _ => rfl)) q0 ?_; rotate_left; focus (intro wq hw; have kq := KC.out wq hw; clear hw; go_simp; try (with_reducible rfl))
        refine wpHeldIn_take (i := 9) (v := ?_) (plain_of (by kernel_rfl)) rfl (by kernel_rfl) (fun _ _ _ h => h) (yieldsSoIn_of (by kernel_rfl) ?_ (fun _ => rfl)) q0 ?_; rotate_left; focus (intro wq hw; clear hw; go_simp; try (with_reducible rfl))
        refine wpHeldIn_take (i := 10) (v := ?_) (plain_of (by kernel_rfl)) rfl (by kernel_rfl) (fun _ _ _ h => h) (yieldsSoIn_of (by kernel_rfl) ?_ (fun _ => rfl)) q0 ?_; rotate_left; focus (intro wq hw; clear hw; go_simp; try (with_reducible rfl))
        refine wpHeldIn_take (i := 11) (v := ?_) (plain_of (by kernel_rfl)) rfl (by kernel_rfl) (fun _ _ _ h => h) (yieldsSoIn_of (by kernel_rfl) ?_ (fun _ => rfl)) q0 ?_; rotate_left; focus (intro wq hw; have kq := KC.out wq hw; clear hw; go_simp; try (with_reducible rfl))
        refine wpHeldIn_take (i := 12) (v := ?_) (plain_of (by kernel_rfl)) rfl (by kernel_rfl) (fun _ _ _ h => h) (yieldsSoIn_of (by kernel_rfl) ?_ (fun _ => rfl)) q0 ?_; rotate_left; focus (intro wq hw; clear hw; go_simp; try (with_reducible rfl))
        refine wpHeldIn_take (i := 13) (v := ?_) (plain_of (by kernel_rfl)) rfl (by kernel_rfl) (fun _ _ _ h => h) (yieldsSoIn_of (by kernel_rfl) ?_ (fun _ => rfl)) q0 ?_; rotate_left; focus (intro wq hw; have kq := KC.out wq hw; clear hw; go_simp; try (with_reducible rfl))
        refine wpHeldIn_take (i := 14) (v := ?_) (plain_of (by kernel_rfl)) rfl (by kernel_rfl) (fun _ _ _ h => h) (yieldsSoIn_of (by kernel_rfl) ?_ (fun _ => rfl)) q0 ?_; rotate_left; focus (intro wq hw; clear hw; go_simp; try (with_reducible rfl))
        refine wpHeldIn_take (i := 15) (v := ?_) (plain_of (by kernel_rfl)) rfl (by kernel_rfl) (fun _ _ _ h => h) (yieldsSoIn_of (by kernel_rfl) ?_ (fun _ => rfl)) q0 ?_; rotate_left; focus (intro wq hw; clear hw; go_simp; try (with_reducible rfl))
        refine wpHeldIn_take (i := 16) (v := ?_) (plain_of (by kernel_rfl)) rfl (by kernel_rfl) (fun _ _ _ h => h) (yieldsSoIn_of (by kernel_rfl) ?_ (fun _ => rfl)) q0 ?_; rotate_left; focus (intro wq hw; have kq := KC.out wq hw; clear hw; go_simp; try (with_reducible rfl))
        refine wpHeldIn_take (i := 17) (v := ?_) (plain_of (by kernel_rfl)) rfl (by kernel_rfl) (fun _ _ _ h => h) (yieldsSoIn_of (by kernel_rfl) ?_ (fun _ => rfl)) q0 ?_; rotate_left; focus (intro wq hw; clear hw; go_simp; try (with_reducible rfl))
        refine wpHeldIn_take (i := 18) (v := ?_) (plain_of (by kernel_rfl)) rfl (by kernel_rfl) (fun _ _ _ h => h) (yieldsSoIn_of (by kernel_rfl) ?_ (fun _ => rfl)) q0 ?_; rotate_left; focus (intro wq hw; clear hw; go_simp; try (with_reducible rfl))
        refine wpHeldIn_take (i := 19) (v := ?_) (plain_of (by kernel_rfl)) rfl (by kernel_rfl) (fun _ _ _ h => h) (yieldsSoIn_of (by kernel_rfl) ?_ (fun _ => rfl)) q0 ?_; rotate_left; focus (intro wq hw; have kq := KC.out wq hw; clear hw; go_simp; try (with_reducible rfl))
        refine wpHeldIn_take (i := 20) (v := ?_) (plain_of (by kernel_rfl)) rfl (by kernel_rfl) (fun _ _ _ h => h) (yieldsSoIn_of (by kernel_rfl) ?_ (fun _ => rfl)) q0 ?_; rotate_left; focus (intro wq hw; clear hw; go_simp; try (with_reducible rfl))
        refine wpHeldIn_take (i := 21) (v := ?_) (plain_of (by kernel_rfl)) rfl (by kernel_rfl) (fun _ _ _ h => h) (yieldsSoIn_of (by kernel_rfl) ?_ (fun _ => rfl)) q0 ?_; rotate_left; focus (intro wq hw; clear hw; go_simp; try (with_reducible rfl))
        refine wpHeldIn_take (i := 22) (v := ?_) (plain_of (by kernel_rfl)) rfl (by kernel_rfl) (fun _ _ _ h => h) (yieldsSoIn_of (by kernel_rfl) ?_ (fun _ => rfl)) q0 ?_; rotate_left; focus (intro wq hw; clear hw; go_simp; try (with_reducible rfl))
        refine wpHeldIn_take (i := 23) (v := ?_) (plain_of (by kernel_rfl)) rfl (by kernel_rfl) (fun _ _ _ h => h) (yieldsSoIn_of (by kernel_rfl) ?_ (fun _ => rfl)) q0 ?_; rotate_left; focus (intro wq hw; have kq := KC.out wq hw; clear hw; go_simp; try (with_reducible rfl))
        refine wpHeldIn_take (i := 24) (v := ?_) (plain_of (by kernel_rfl)) rfl (by kernel_rfl) (fun _ _ _ h => h) (yieldsSoIn_of (by kernel_rfl) ?_ (fun _ => rfl)) q0 ?_; rotate_left; focus (intro wq hw; clear hw; go_simp; try (with_reducible rfl))
        refine wpHeldIn_take (i := 25) (v := ?_) (plain_of (by kernel_rfl)) rfl (by kernel_rfl) (fun _ _ _ h => h) (yieldsSoIn_of (by kernel_rfl) ?_ (fun _ => rfl)) q0 ?_; rotate_left; focus (intro wq hw; have kq := KC.out wq hw; clear hw; go_simp; try (with_reducible rfl))
        refine wpHeldIn_one (i := 26) (by kernel_rfl) (by kernel_rfl) rfl (by kernel_rfl) (fun K1 hK1 => ?_)
        go_simp
        have q1 : Below wr.heap.size wr ((wr.alloc (.cells #[.int .i64 p1.1, .int .i64 p1.2, .int .i64 p2.1, .int .i64 p2.2, .int .i64 p3.1, .int .i64 p3.2, .int .i64 p4.1, .int .i64 p4.2] 28)).drew) := ((Below.refl _ _).alloc (Nat.le_refl _) _).drew
        refine hK1 _ _ q1 ?_
        refine wpHeldIn_one (i := 27) (by kernel_rfl) (by kernel_rfl) rfl (by kernel_rfl) (fun K2 hK2 => ?_)
        go_simp
        refine ⟨trivial, (callsIn_wide.2 (HDB.out _ _ _ (prs_keep (prs4_new wr p1 p2 p3 p4) ((Below.refl _ _).drew)))).mono ?_⟩
        rintro e w5 ⟨rfl, hb5⟩
        have q2 := q1.trans (hb5.mono q1.size)
        refine hK2 _ _ q2 ?_
        refine wpHeldIn_take (i := 28) (v := ?_) (plain_of (by kernel_rfl)) rfl (by kernel_rfl) (fun _ _ _ h => h) (yieldsSoIn_of (by kernel_rfl) ?_ (fun _ => rfl)) q2 ?_; rotate_left; focus (intro wq hw; clear hw; go_simp; try (with_reducible rfl))
        refine wpHeldIn_take (i := 29) (v := ?_) (plain_of (by kernel_rfl)) rfl (by kernel_rfl) (fun _ _ _ h => h) (yieldsSoIn_of (by kernel_rfl) ?_ (fun _ => rfl)) q2 ?_; rotate_left; focus (intro wq hw; clear hw; go_simp; try (with_reducible rfl))
        refine wpHeldIn_done (by kernel_rfl) ?_ _
        go_simp
        have bS5 := bS.below q2
        have hB5 := hB.trans (q2.mono hB.size)
        clear KC q0 q1 q2 hb5
        go_wp2_with fail
        obtain ⟨g', hg'⟩ : ∃ g', gk = g' + 1 := ⟨gk - 1, by have := hk.out; omega⟩
        go_roundg g'
        case measure => omega
        case rel => exact ⟨k + 1, by have := hk.out; simp only [Hid]; omega, by omega, by go_num, by rw [HS.out], HBD, hB5, bS5⟩
    · have ek : k = es.length := by omega
      have HR : Hid (R = SW k) := by unfold Hid; rw [HSV.out, ek]
      clear ek
      go_wp2_with fail
      go_returns
      exact ⟨by rw [HR.out]; rfl, hB⟩
end Go.Proofs.Ytmjcdggmofohcaa
