/- Texts of this proof, one behind the other: WlF, Calm, WlU, WlM. Each says its own conditions. -/
import Derived.Test.YtmjcdggmofohcaaGreatMh04
import Derived.Test.YtmjcdggmofohcaaGreatMh12
namespace Go.Proofs.YtmjcdggmofohcaaGreat
open Go.RowKit
namespace Wl
theorem dbl4 (a b c d : Pt) : dbl [a, b, c, d] = quad a b c d := by
  unfold quad
  simp [dbl, dblTo, ptAt]
theorem cr_bd {a b : Pt} (h1 : Geo.sm a) (h2 : Geo.sm b) : -2000000 ≤ cr a b ∧ cr a b ≤ 2000000 := by
  unfold Geo.sm at h1 h2
  have m1 := mul_bd (x := 1000) (y := 1000) h1.1.1 h1.1.2 h2.2.1 h2.2.2
  have m2 := mul_bd (x := 1000) (y := 1000) h1.2.1 h1.2.2 h2.1.1 h2.1.2
  unfold cr
  omega
theorem quad_bd {a b c d : Pt} (h1 : Geo.sm a) (h2 : Geo.sm b) (h3 : Geo.sm c) (h4 : Geo.sm d) : -8000000 ≤ quad a b c d ∧ quad a b c d ≤ 8000000 := by
  have := cr_bd h1 h2; have := cr_bd h2 h3; have := cr_bd h3 h4; have := cr_bd h4 h1
  unfold quad
  omega
end Wl
theorem prs4_new (w : World) (p1 p2 p3 p4 : Wl.Pt) : Prs (w.alloc (.cells #[.int .i64 p1.1, .int .i64 p1.2, .int .i64 p2.1, .int .i64 p2.2, .int .i64 p3.1, .int .i64 p3.2, .int .i64 p4.1, .int .i64 p4.2] 53)) (w.alloc (.cells #[.int .i64 p1.1, .int .i64 p1.2, .int .i64 p2.1, .int .i64 p2.2, .int .i64 p3.1, .int .i64 p3.2, .int .i64 p4.1, .int .i64 p4.2] 53)).heap.size (some ⟨w.heap.size, 0, none⟩) [p1, p2, p3, p4] := fun _ => by
  have hb := BoxS.new w 53 #[.int .i64 p1.1, .int .i64 p1.2, .int .i64 p2.1, .int .i64 p2.2, .int .i64 p3.1, .int .i64 p3.2, .int .i64 p4.1, .int .i64 p4.2]
  refine ⟨w.heap.size, 0, rfl, by simp, fun k p hk => ?_⟩
  match k, hk with
  | 0, hk => obtain rfl : p1 = p := by simpa using hk
             exact ⟨hb.cell 0 rfl, hb.cell 1 rfl⟩
  | 1, hk => obtain rfl : p2 = p := by simpa using hk
             exact ⟨hb.cell 2 rfl, hb.cell 3 rfl⟩
  | 2, hk => obtain rfl : p3 = p := by simpa using hk
             exact ⟨hb.cell 4 rfl, hb.cell 5 rfl⟩
  | 3, hk => obtain rfl : p4 = p := by simpa using hk
             exact ⟨hb.cell 6 rfl, hb.cell 7 rfl⟩
  | k + 4, hk => simp at hk
set_option maxRecDepth 100000 in
set_option maxHeartbeats 8000000 in
theorem sweepW_any (t : Wl.Trk) (ws : List Wl.Pt) (es : List Int) (A Aw Ae : Option Addr) (c cw ce : Nat) (hs : ∀ k, k < t.ps.length → Geo.sm (Wl.ptAt t.ps k)) (hsw : ∀ k, k < ws.length → Geo.sm (Wl.ptAt ws k)) (hin : ∀ k, k < es.length → 0 ≤ Wl.esAt es k ∧ Wl.esAt es k < t.ps.length) (hl : t.ps.length ≤ 1000000000) (hle : es.length = ws.length) (hlw : ws.length ≤ 8) (w : World) (hP : Prs w w.heap.size A t.ps) (hQ : Prs w w.heap.size Aw ws) (hE : Ints w w.heap.size (.slice Ae es.length ce) es) :
    Calls Tryz.prog 29 #[.agg (mcV t A c Aw ws.length cw), .slice Ae es.length ce] w fun e w' => e = .returned (.int .i64 (Wl.sweepV t ws es)) ∧ Below w.heap.size w w' := by
  have HSV : Hid (Wl.sweepV t ws es = Wl.swTo t ws es es.length) := rfl
  have HS0 : Hid (Wl.swTo t ws es 0 = 0) := rfl
  have HSS : Hid (∀ k, k < es.length → Wl.swTo t ws es (k + 1) = Wl.swTo t ws es k + Wl.quad (Wl.ptAt t.ps (Wl.esAt es k).toNat) (Wl.ptAt ws k) (Wl.ptAt ws ((k + 1) % es.length)) (Wl.ptAt t.ps (Wl.esAt es ((k + 1) % es.length)).toNat)) := fun k hk => by
    show Wl.swTo t ws es k + Wl.quad _ _ _ _ = _
    unfold Wl.eAt
    rw [← hle, Nat.mod_eq_of_lt hk]
    rfl
  have HIN := Lib.hid hin
  have HSM := Lib.hid hs
  have HSW := Lib.hid hsw
  have HP := Lib.hid hP
  have HQ := Lib.hid hQ
  have HE := Lib.hid hE
  have HL := Lib.hid hle
  have hl8 : es.length ≤ 8 := by omega
  have hmo : Tryz.prog.follows .mixedOrders = true := by kernel_rfl
  obtain ⟨ps, cl, lo, hi⟩ := t
  unfold mcV
  dsimp only at *
  generalize Wl.sweepV ⟨ps, cl, lo, hi⟩ ws es = R at *
  generalize Wl.swTo ⟨ps, cl, lo, hi⟩ ws es = SW at *
  clear hP hQ hE hle hs hsw hin
  go_enter Tryz.func29, Tryz.ntmps29
  go_wp2_with fail
  have bS1 := BoxS.new w 61 #[.slice A ps.length c, .int .i64 cl, .int .i64 lo, .int .i64 hi, .slice Aw ws.length cw]
  have hB1 : Below w.heap.size w (w.alloc (.cells #[.slice A ps.length c, .int .i64 cl, .int .i64 lo, .int .i64 hi, .slice Aw ws.length cw] 61)) := by (repeat' (first | (with_reducible exact Below.refl _ _) | (with_reducible assumption) | (with_reducible refine Below.alloc ?_ ?_ _) | (with_reducible refine Below.drew ?_) | (with_reducible refine Below.setCell ?_ ?_ _) | go_size | (exact (by simp)) | omega))
  generalize World.alloc w _ = w1 at *
  try go_wp2_with fail
  go_loopg [5, 11] es.length (fun g x5 x11 wx => ∃ k : Nat, Hid (k + g = es.length) ∧ (k : Int) ≤ es.length ∧ x11 = .int .i64 (k : Int) ∧ x5 = .int .i64 (SW k) ∧ Hid (-(8000000 * (k : Int)) ≤ SW k ∧ SW k ≤ 8000000 * (k : Int)) ∧ Below w.heap.size w wx ∧ BoxS wx w.heap.size 61 #[.slice A ps.length c, .int .i64 cl, .int .i64 lo, .int .i64 hi, .slice Aw ws.length cw])
  case atStart => exact ⟨0, by simp [Hid], by omega, rfl, by rw [HS0.out], by unfold Hid; rw [HS0.out]; omega, hB1, bS1⟩
  case round =>
    clear hB1 bS1
    obtain ⟨k, hk, hk1, rfl, rfl, hbd, hB, bS⟩ := hrel
    have hk0 := Int.natCast_nonneg k
    by_cases hlt : (k : Int) < es.length
    · have hkn : k < es.length := by omega
      have hm : (k + 1) % es.length < es.length := Nat.mod_lt _ (by omega)
      have hkw : k < ws.length := by have := HL.out; omega
      have hmw : (k + 1) % es.length < ws.length := by have := HL.out; omega
      have HS := Lib.hid (HSS.out k hkn)
      obtain ⟨i0, i1⟩ := HIN.out k hkn
      obtain ⟨j0, j1⟩ := HIN.out _ hm
      have hek : es[k]? = some (Wl.esAt es k) := by unfold Wl.esAt; rw [List.getElem?_eq_getElem hkn]; rfl
      have hem : es[(k + 1) % es.length]? = some (Wl.esAt es ((k + 1) % es.length)) := by unfold Wl.esAt; rw [List.getElem?_eq_getElem hm]; rfl
      have hwk : ws[k]? = some (Wl.ptAt ws k) := by unfold Wl.ptAt; rw [List.getElem?_eq_getElem hkw]; rfl
      have hwm : ws[(k + 1) % es.length]? = some (Wl.ptAt ws ((k + 1) % es.length)) := by unfold Wl.ptAt; rw [List.getElem?_eq_getElem hmw]; rfl
      rcases HE.out with ⟨_, e⟩ | ⟨be, oe, cape, e, hbe, hce⟩
      · subst e; simp at hkn
      · injection e with eA _ ec
        subst eA ec
        have z0 := hce k _ hek
        have z1 := hce _ _ hem
        obtain ⟨bw, ow, rfl, hbw, hcw⟩ := HQ.out (by omega)
        obtain ⟨y0, y1⟩ := hcw k _ hwk
        obtain ⟨y2, y3⟩ := hcw _ _ hwm
        obtain ⟨bp, op, rfl, hbp, hcp⟩ := HP.out (by omega)
        have hr1 : ((k : Int) + 1) % (es.length : Int) = (((k + 1) % es.length : Nat) : Int) := by rw [Int.natCast_emod]; rfl
        have hr2 : ((k : Int) + 1).tmod (es.length : Int) = (((k + 1) % es.length : Nat) : Int) := by rw [Int.tmod_eq_emod_of_nonneg (by omega)]; exact hr1
        have hs2 := HSW.out k hkw
        have hs3 := HSW.out _ hmw
        clear hce hcw hek hem hwk hwm HSS HIN hr1
        generalize Wl.esAt es ((k + 1) % es.length) = ey at *
        generalize Wl.esAt es k = ex at *
        obtain ⟨i, hi'⟩ : ∃ i : Nat, ex = i := ⟨ex.toNat, by omega⟩
        obtain ⟨j, hj'⟩ : ∃ j : Nat, ey = j := ⟨ey.toNat, by omega⟩
        subst hi' hj'
        rw [Int.toNat_natCast, Int.toNat_natCast] at HS
        have hin : i < ps.length := by omega
        have hjn : j < ps.length := by omega
        have hs1 := HSM.out i hin
        have hs4 := HSM.out j hjn
        have hpi : ps[i]? = some (Wl.ptAt ps i) := by unfold Wl.ptAt; rw [List.getElem?_eq_getElem hin]; rfl
        have hpj : ps[j]? = some (Wl.ptAt ps j) := by unfold Wl.ptAt; rw [List.getElem?_eq_getElem hjn]; rfl
        obtain ⟨v0, v1⟩ := hcp i _ hpi
        obtain ⟨v2, v3⟩ := hcp j _ hpj
        generalize (k + 1) % es.length = r at *
        have hqb := Wl.quad_bd hs1 hs2 hs3 hs4
        have HD : Hid (∀ W, Prs W W.heap.size (some ⟨W.heap.size - 1, 0, none⟩) [] → True) := fun _ _ => trivial
        have HDB : Hid (∀ A' c' W, Prs W W.heap.size A' [Wl.ptAt ps i, Wl.ptAt ws k, Wl.ptAt ws r, Wl.ptAt ps j] → Calls Tryz.prog 38 #[.slice A' 4 c'] W fun e w' => e = .returned (.int .i64 (Wl.quad (Wl.ptAt ps i) (Wl.ptAt ws k) (Wl.ptAt ws r) (Wl.ptAt ps j))) ∧ Below W.heap.size W w') := fun A' c' W h => by
          have := doubledW_any A' c' [Wl.ptAt ps i, Wl.ptAt ws k, Wl.ptAt ws r, Wl.ptAt ps j] (by
            intro p hp
            simp only [List.mem_cons, List.not_mem_nil, or_false] at hp
            rcases hp with rfl | rfl | rfl | rfl
            · exact hs1
            · exact hs2
            · exact hs3
            · exact hs4) (by simp) W h
          rw [Wl.dbl4] at this
          exact this
        have KC : Hid (∀ W', Below wr.heap.size wr W' → (W'.cell? ⟨w.heap.size, 0, none⟩ = some (.slice (some ⟨bp, op, none⟩) ps.length c) ∧ W'.cell? ⟨w.heap.size, 4, none⟩ = some (.slice (some ⟨bw, ow, none⟩) ws.length cw)) ∧ (W'.cell? ⟨be, oe + k, none⟩ = some (.int .i64 (i : Int)) ∧ W'.cell? ⟨be, oe + r, none⟩ = some (.int .i64 (j : Int))) ∧ ((W'.cell? ⟨bp, op + i * 2, none⟩ = some (.int .i64 (Wl.ptAt ps i).1) ∧ W'.cell? ⟨bp, op + i * 2 + 1, none⟩ = some (.int .i64 (Wl.ptAt ps i).2)) ∧ W'.cell? ⟨bp, op + j * 2, none⟩ = some (.int .i64 (Wl.ptAt ps j).1) ∧ W'.cell? ⟨bp, op + j * 2 + 1, none⟩ = some (.int .i64 (Wl.ptAt ps j).2)) ∧ (W'.cell? ⟨bw, ow + k * 2, none⟩ = some (.int .i64 (Wl.ptAt ws k).1) ∧ W'.cell? ⟨bw, ow + k * 2 + 1, none⟩ = some (.int .i64 (Wl.ptAt ws k).2)) ∧ W'.cell? ⟨bw, ow + r * 2, none⟩ = some (.int .i64 (Wl.ptAt ws r).1) ∧ W'.cell? ⟨bw, ow + r * 2 + 1, none⟩ = some (.int .i64 (Wl.ptAt ws r).2)) := fun W' h => by
          have h2 := hB.trans (h.mono hB.size)
          exact ⟨⟨(bS.below h).cell 0 rfl, (bS.below h).cell 4 rfl⟩, ⟨(h2.cell (p := ⟨be, _, none⟩) hbe).trans z0, (h2.cell (p := ⟨be, _, none⟩) hbe).trans z1⟩, ⟨⟨(h2.cell (p := ⟨bp, _, none⟩) hbp).trans v0, (h2.cell (p := ⟨bp, _, none⟩) hbp).trans v1⟩, (h2.cell (p := ⟨bp, _, none⟩) hbp).trans v2, (h2.cell (p := ⟨bp, _, none⟩) hbp).trans v3⟩, ⟨(h2.cell (p := ⟨bw, _, none⟩) hbw).trans y0, (h2.cell (p := ⟨bw, _, none⟩) hbw).trans y1⟩, (h2.cell (p := ⟨bw, _, none⟩) hbw).trans y2, (h2.cell (p := ⟨bw, _, none⟩) hbw).trans y3⟩
        have z0 := (hB.cell (p := ⟨be, _, none⟩) hbe).trans z0
        have hbr : be < wr.heap.size := by have := hB.size; omega
        clear hcp hpi hpj v0 v1 v2 v3 y0 y1 y2 y3 z1 HD hs1 hs2 hs3 hs4 HSM HSW
        generalize Wl.ptAt ps i = p1 at *
        generalize Wl.ptAt ps j = p4 at *
        generalize Wl.ptAt ws k = p2 at *
        generalize Wl.ptAt ws r = p3 at *
        generalize Wl.quad p1 p2 p3 p4 = qv at *
        have hw1 : IntKind.i64.wrap ((k : Int) + 1) = (k : Int) + 1 := IntWalk.i64_in _ (by omega)
        have hw2 : IntKind.i64.wrap (r : Int) = (r : Int) := IntWalk.i64_in _ (by omega)
        have hw3 : IntKind.i64.wrap (SW k + qv) = SW k + qv := IntWalk.i64_in _ (by have := hbd.out; omega)
        have hne : ¬ (es.length : Int) = 0 := by omega
        have hne2 : ¬ es.length = 0 := by omega
        have hne3 : ¬ es = [] := by intro e; subst e; simp at hne2
        have HBD : Hid (-(8000000 * ((k + 1 : Nat) : Int)) ≤ SW (k + 1) ∧ SW (k + 1) ≤ 8000000 * ((k + 1 : Nat) : Int)) := by
          have := hbd.out
          unfold Hid
          rw [HS.out]
          omega
        have d1 : decide ((k : Int) < 0) = false := decide_eq_false (by omega)
        have d2 : decide ((es.length : Int) ≤ (k : Int)) = false := decide_eq_false (by omega)
        have d3 : decide ((ws.length : Int) ≤ (k : Int)) = false := decide_eq_false (by omega)
        have d4 : decide (es.length ≤ k) = false := decide_eq_false (by omega)
        have d5 : decide (ws.length ≤ k) = false := decide_eq_false (by omega)
        have f1 : decide ((r : Int) < 0) = false := decide_eq_false (by omega)
        have f2 : decide ((es.length : Int) ≤ (r : Int)) = false := decide_eq_false (by omega)
        have f3 : decide ((ws.length : Int) ≤ (r : Int)) = false := decide_eq_false (by omega)
        have f4 : decide (es.length ≤ r) = false := decide_eq_false (by omega)
        have f5 : decide (ws.length ≤ r) = false := decide_eq_false (by omega)
        have g2 : decide ((ps.length : Int) ≤ (i : Int)) = false := decide_eq_false (by omega)
        have g4 : decide (ps.length ≤ i) = false := decide_eq_false (by omega)
        have h2 : decide ((ps.length : Int) ≤ (j : Int)) = false := decide_eq_false (by omega)
        have h4 : decide (ps.length ≤ j) = false := decide_eq_false (by omega)
        have g1 : decide ((i : Int) < 0) = false := decide_eq_false (by omega)
        have h1 : decide ((j : Int) < 0) = false := decide_eq_false (by omega)
        have q0 : Below wr.heap.size wr wr.drew := (Below.refl _ _).drew
        clear hqb hbd
        go_upto_region 6 with fail
        clear z0
        refine (wpIn_wide (n := 4)).1 ?_
        refine wpIn_region_held (fun W' => Below wr.heap.size wr W') 40 hmo ?_
        refine wpHeldIn_take (i := 0) (v := ?_) (plain_of (by kernel_rfl)) rfl (by kernel_rfl) (fun _ _ _ h => h) (yieldsSoIn_of (by kernel_rfl) ?_ (fun _ => rfl)) q0 ?_; rotate_left; focus (intro wq hw; clear hw; go_simp; try (with_reducible rfl))
        refine wpHeldIn_take (i := 1) (v := ?_) (plain_of (by kernel_rfl)) rfl (by kernel_rfl) (fun _ _ _ h => h) (yieldsSoIn_of (by kernel_rfl) ?_ (fun _ => rfl)) q0 ?_; rotate_left; focus (intro wq hw; clear hw; go_simp; try (with_reducible rfl))
        refine wpHeldIn_take (i := 2) (v := ?_) (plain_of (by kernel_rfl)) rfl (by kernel_rfl) (fun _ _ _ h => h) (yieldsSoIn_of (by kernel_rfl) ?_ (fun _ => rfl)) q0 ?_; rotate_left; focus (intro wq hw; clear hw; go_simp; try (with_reducible rfl))
        refine wpHeldIn_take (i := 3) (v := ?_) (plain_of (by kernel_rfl)) rfl (by kernel_rfl) (fun _ _ _ h => h) (yieldsSoIn_of (by kernel_rfl) ?_ (fun _ => rfl)) q0 ?_; rotate_left; focus (intro wq hw; have kq := KC.out wq hw; clear hw; go_simp; try (with_reducible rfl))
        refine wpHeldIn_take (i := 4) (v := ?_) (plain_of (by kernel_rfl)) rfl (by kernel_rfl) (fun _ _ _ h => h) (yieldsSoIn_of (by kernel_rfl) ?_ (fun _ => rfl)) q0 ?_; rotate_left; focus (intro wq hw; clear hw; go_simp; try (with_reducible rfl))
        refine wpHeldIn_take (i := 5) (v := ?_) (plain_of (by kernel_rfl)) rfl (by kernel_rfl) (fun _ _ _ h => h) (yieldsSoIn_of (by kernel_rfl) ?_ (fun _ => rfl)) q0 ?_; rotate_left; focus (intro wq hw; clear hw; go_simp; try (with_reducible rfl))
        refine wpHeldIn_take (i := 6) (v := ?_) (plain_of (by kernel_rfl)) rfl (by kernel_rfl) (fun _ _ _ h => h) (yieldsSoIn_of (by kernel_rfl) ?_ (fun _ => rfl)) q0 ?_; rotate_left; focus (intro wq hw; have kq := KC.out wq hw; clear hw; go_simp; try (with_reducible rfl))
        refine wpHeldIn_take (i := 7) (v := ?_) (plain_of (by kernel_rfl)) rfl (by kernel_rfl) (fun _ _ _ h => h) (yieldsSoIn_of (by kernel_rfl) ?_ (fun _ => rfl)) q0 ?_; rotate_left; focus (intro wq hw; clear hw; go_simp; try (with_reducible rfl))
        refine wpHeldIn_take (i := 8) (v := ?_) (plain_of (by kernel_rfl)) rfl (by kernel_rfl) (fun _ _ _ h => h) (yieldsSoIn_of (by kernel_rfl) ?_ (fun _ => rfl)) q0 ?_; rotate_left; focus (intro wq hw; have kq := KC.out wq hw; clear hw; go_simp; try (with_reducible rfl))
        refine wpHeldIn_take (i := 9) (v := ?_) (plain_of (by kernel_rfl)) rfl (by kernel_rfl) (fun _ _ _ h => h) (yieldsSoIn_of (by kernel_rfl) ?_ (fun _ => rfl)) q0 ?_; rotate_left; focus (intro wq hw; clear hw; go_simp; try (with_reducible rfl))
        refine wpHeldIn_take (i := 10) (v := ?_) (plain_of (by kernel_rfl)) rfl (by kernel_rfl) (fun _ _ _ h => h) (yieldsSoIn_of (by kernel_rfl) ?_ (fun _ => rfl)) q0 ?_; rotate_left; focus (intro wq hw; clear hw; go_simp; try (with_reducible rfl))
        refine wpHeldIn_take (i := 11) (v := ?_) (plain_of (by kernel_rfl)) rfl (by kernel_rfl) (fun _ _ _ h => h) (yieldsSoIn_of (by kernel_rfl) ?_ (fun _ => rfl)) q0 ?_; rotate_left; focus (intro wq hw; have kq := KC.out wq hw; clear hw; go_simp; try (with_reducible rfl))
        refine wpHeldIn_take (i := 12) (v := ?_) (plain_of (by kernel_rfl)) rfl (by kernel_rfl) (fun _ _ _ h => h) (yieldsSoIn_of (by kernel_rfl) ?_ (fun _ => rfl)) q0 ?_; rotate_left; focus (intro wq hw; clear hw; go_simp; try (with_reducible rfl))
        refine wpHeldIn_take (i := 13) (v := ?_) (plain_of (by kernel_rfl)) rfl (by kernel_rfl) (fun _ _ _ h => h) (yieldsSoIn_of (by kernel_rfl) ?_ (fun _ => rfl)) q0 ?_; rotate_left; focus (intro wq hw; have kq := KC.out wq hw; clear hw; go_simp; try (with_reducible rfl))
        refine wpHeldIn_take (i := 14) (v := ?_) (plain_of (by kernel_rfl)) rfl (by kernel_rfl) (fun _ _ _ h => h) (yieldsSoIn_of (by kernel_rfl) ?_ (fun _ => rfl)) q0 ?_; rotate_left; focus (intro wq hw; clear hw; go_simp; try (with_reducible rfl))
        refine wpHeldIn_take (i := 15) (v := ?_) (plain_of (by kernel_rfl)) rfl (by kernel_rfl) (fun _ _ _ h => h) (yieldsSoIn_of (by kernel_rfl) ?_ (fun _ => rfl)) q0 ?_; rotate_left; focus (intro wq hw; clear hw; go_simp; try (with_reducible rfl))
        refine wpHeldIn_take (i := 16) (v := ?_) (plain_of (by kernel_rfl)) rfl (by kernel_rfl) (fun _ _ _ h => h) (yieldsSoIn_of (by kernel_rfl) ?_ (fun _ => rfl)) q0 ?_; rotate_left; focus (intro wq hw; have kq := KC.out wq hw; clear hw; go_simp; try (with_reducible rfl))
        refine wpHeldIn_take (i := 17) (v := ?_) (plain_of (by kernel_rfl)) rfl (by kernel_rfl) (fun _ _ _ h => h) (yieldsSoIn_of (by kernel_rfl) ?_ (fun _ => rfl)) q0 ?_; rotate_left; focus (intro wq hw; clear hw; go_simp; try (with_reducible rfl))
        refine wpHeldIn_take (i := 18) (v := ?_) (plain_of (by kernel_rfl)) rfl (by kernel_rfl) (fun _ _ _ h => h) (yieldsSoIn_of (by kernel_rfl) ?_ (fun _ => rfl)) q0 ?_; rotate_left; focus (intro wq hw; clear hw; go_simp; try (with_reducible rfl))
        refine wpHeldIn_take (i := 19) (v := ?_) (plain_of (by kernel_rfl)) rfl (by kernel_rfl) (fun _ _ _ h => h) (yieldsSoIn_of (by kernel_rfl) ?_ (fun _ => rfl)) q0 ?_; rotate_left; focus (intro wq hw; have kq := KC.out wq hw; clear hw; go_simp; try (with_reducible rfl))
        refine wpHeldIn_take (i := 20) (v := ?_) (plain_of (by kernel_rfl)) rfl (by kernel_rfl) (fun _ _ _ h => h) (yieldsSoIn_of (by kernel_rfl) ?_ (fun _ => rfl)) q0 ?_; rotate_left; focus (intro wq hw; clear hw; go_simp; try (with_reducible rfl))
        refine wpHeldIn_take (i := 21) (v := ?_) (plain_of (by kernel_rfl)) rfl (by kernel_rfl) (fun _ _ _ h => h) (yieldsSoIn_of (by kernel_rfl) ?_ (fun _ => rfl)) q0 ?_; rotate_left; focus (intro wq hw; clear hw; go_simp; try (with_reducible rfl))
        refine wpHeldIn_take (i := 22) (v := ?_) (plain_of (by kernel_rfl)) rfl (by kernel_rfl) (fun _ _ _ h => h) (yieldsSoIn_of (by kernel_rfl) ?_ (fun _ => rfl)) q0 ?_; rotate_left; focus (intro wq hw; clear hw; go_simp; try (with_reducible rfl))
        refine wpHeldIn_take (i := 23) (v := ?_) (plain_of (by kernel_rfl)) rfl (by kernel_rfl) (fun _ _ _ h => h) (yieldsSoIn_of (by kernel_rfl) ?_ (fun _ => rfl)) q0 ?_; rotate_left; focus (intro wq hw; have kq := KC.out wq hw; clear hw; go_simp; try (with_reducible rfl))
        refine wpHeldIn_take (i := 24) (v := ?_) (plain_of (by kernel_rfl)) rfl (by kernel_rfl) (fun _ _ _ h => h) (yieldsSoIn_of (by kernel_rfl) ?_ (fun _ => rfl)) q0 ?_; rotate_left; focus (intro wq hw; clear hw; go_simp; try (with_reducible rfl))
        refine wpHeldIn_take (i := 25) (v := ?_) (plain_of (by kernel_rfl)) rfl (by kernel_rfl) (fun _ _ _ h => h) (yieldsSoIn_of (by kernel_rfl) ?_ (fun _ => rfl)) q0 ?_; rotate_left; focus (intro wq hw; have kq := KC.out wq hw; clear hw; go_simp; try (with_reducible rfl))
        refine wpHeldIn_one (i := 26) (by kernel_rfl) (by kernel_rfl) rfl (by kernel_rfl) (fun K1 hK1 => ?_)
        go_simp
        have q1 : Below wr.heap.size wr ((wr.alloc (.cells #[.int .i64 p1.1, .int .i64 p1.2, .int .i64 p2.1, .int .i64 p2.2, .int .i64 p3.1, .int .i64 p3.2, .int .i64 p4.1, .int .i64 p4.2] 53)).drew) := ((Below.refl _ _).alloc (Nat.le_refl _) _).drew
        refine hK1 _ _ q1 ?_
        refine wpHeldIn_one (i := 27) (by kernel_rfl) (by kernel_rfl) rfl (by kernel_rfl) (fun K2 hK2 => ?_)
        go_simp
        refine ⟨trivial, (callsIn_wide.2 (HDB.out _ _ _ (prs_keep (prs4_new wr p1 p2 p3 p4) ((Below.refl _ _).drew)))).mono ?_⟩
        rintro e w5 ⟨rfl, hb5⟩
        have q2 := q1.trans (hb5.mono q1.size)
        refine hK2 _ _ q2 ?_
        refine wpHeldIn_take (i := 28) (v := ?_) (plain_of (by kernel_rfl)) rfl (by kernel_rfl) (fun _ _ _ h => h) (yieldsSoIn_of (by kernel_rfl) ?_ (fun _ => rfl)) q2 ?_; rotate_left; focus (intro wq hw; clear hw; go_simp; try (with_reducible rfl))
        refine wpHeldIn_take (i := 29) (v := ?_) (plain_of (by kernel_rfl)) rfl (by kernel_rfl) (fun _ _ _ h => h) (yieldsSoIn_of (by kernel_rfl) ?_ (fun _ => rfl)) q2 ?_; rotate_left; focus (intro wq hw; clear hw; go_simp; try (with_reducible rfl))
        refine wpHeldIn_done (by kernel_rfl) ?_ _
        go_simp
        have bS5 := bS.below q2
        have hB5 := hB.trans (q2.mono hB.size)
        clear KC q0 q1 q2 hb5
        go_wp2_with fail
        obtain ⟨g', hg'⟩ : ∃ g', gk = g' + 1 := ⟨gk - 1, by have := hk.out; omega⟩
        go_roundg g'
        case measure => omega
        case rel => exact ⟨k + 1, by have := hk.out; simp only [Hid]; omega, by omega, by go_num, by rw [HS.out], HBD, hB5, bS5⟩
    · have ek : k = es.length := by omega
      have HR : Hid (R = SW k) := by unfold Hid; rw [HSV.out, ek]
      clear ek
      go_wp2_with fail
      go_returns
      exact ⟨by rw [HR.out]; rfl, hB⟩
end Go.Proofs.YtmjcdggmofohcaaGreat
namespace Go.Proofs.YtmjcdggmofohcaaGreat
open Go.RowKit
def calm (Q : Exit → Act → World → Prop) : Exit → Act → World → Prop
  | .panic _, _, _ => False
  | e, a, w => Q e a w
theorem wpIn_calm {F : Fence} {n : Nat} {P : Program} {Q : Exit → Act → World → Prop} {c : Code} {a : Act} {w : World} (h : c.wpIn F n P (calm Q) a w) : c.wpIn F n P Q a w :=
  wpIn_mono h fun e a' w' hq => by
    cases e with
    | panic ch => exact hq.elim
    | normal => exact hq
    | ret => exact hq
    | exit id => exact hq
    | goto t => exact hq
    | outgrown => exact hq
theorem calm_normal {Q : Exit → Act → World → Prop} {a : Act} {w : World} (h : Q .normal a w) : calm Q .normal a w := h
end Go.Proofs.YtmjcdggmofohcaaGreat
namespace Go.Proofs.YtmjcdggmofohcaaGreat
open Go.RowKit Go.Shelf
attribute [local go_sem] Oper.semAt_some
theorem near_legs {t : Wl.Trk} {es : List Int} (hes : ∀ e ∈ es, smI e) : ∀ k, k ≤ es.length → (Wl.tieTo t es k = true ↔ ∀ x ∈ legsTo es hes k, Wl.nearB t x.1.1 x.1.2 = true)
  | 0, _ => by simp [legsTo, Wl.tieTo]
  | k + 1, h => by
    show (Wl.tieTo t es k && Wl.nearB t (Wl.esAt es k) (Wl.esAt es ((k + 1) % es.length))) = true ↔ _
    rw [Bool.and_eq_true, near_legs hes k (by omega), legsTo_succ]
    constructor
    · rintro ⟨h1, h2⟩ x hx
      rcases List.mem_append.1 hx with hx | hx
      · exact h1 x hx
      · rw [List.mem_singleton] at hx
        subst hx
        exact h2
    · intro h1
      exact ⟨fun x hx => h1 x (List.mem_append.2 (.inl hx)), h1 _ (List.mem_append.2 (.inr (List.mem_singleton.2 rfl)))⟩
theorem legs_sub {es : List Int} (hes : ∀ e ∈ es, smI e) {k n : Nat} (hk : k ≤ n) {x : Leg} (hx : x ∈ legsTo es hes k) : x ∈ legsTo es hes n := by
  unfold legsTo at *
  rw [List.mem_map] at *
  obtain ⟨i, hi, e⟩ := hx
  rw [List.mem_range] at hi
  exact ⟨i, List.mem_range.2 (by omega), e⟩
namespace Wl
theorem tieTo_all (t : Trk) (es : List Int) (hes : ∀ e ∈ es, smI e) (h : ∀ x ∈ legsTo es hes es.length, nearB t x.1.1 x.1.2 = true) : tieTo t es es.length = true := (near_legs hes _ (Nat.le_refl _)).2 h
theorem tieTo_none (t : Trk) (es : List Int) (hes : ∀ e ∈ es, smI e) {k : Nat} (hk : k ≤ es.length) (h : ∃ x ∈ legsTo es hes k, nearB t x.1.1 x.1.2 = false) : tieTo t es es.length = false := by
  obtain ⟨x, hx, hn⟩ := h
  cases e : tieTo t es es.length with
  | false => rfl
  | true =>
    have := (near_legs hes _ (Nat.le_refl _)).1 e x (legs_sub hes hk hx)
    rw [hn] at this
    cases this
end Wl
set_option maxRecDepth 100000 in
set_option maxHeartbeats 8000000 in
theorem carryW_yes (t : Wl.Trk) (ws : List Wl.Pt) (es : List Int) (A Aw Ae : Option Addr) (c cw ce : Nat) (ht : Wl.trkB t = true) (hw : Wl.ptsB ws = true) (hle : es.length ≤ 1000000000) (hlw : ws.length ≤ 1000000000) (w : World) (hP : Prs w w.heap.size A t.ps) (hQ : Prs w w.heap.size Aw ws) (hE : Ints w w.heap.size (.slice Ae es.length ce) es) (hlen : es.length = ws.length) (hfit : Wl.fitTo t ws es es.length = true) :
    Calls Tryz.prog 61 #[.agg (mcV t A c Aw ws.length cw), .slice Ae es.length ce] w fun e w' => e = .returned (.bool (Wl.tieTo t es es.length)) ∧ Below w.heap.size w w' := by
  obtain ⟨hp8, hc3, hn8⟩ := Wl.trk_parts ht
  have HREA : Hid (∀ (p : Nat) (a : Wl.Pt), p < t.ps.length → Geo.sm a → ∀ W, Below w.heap.size w W → Calls Tryz.prog 84 #[.agg (mcV t A c Aw ws.length cw), .int .i64 (p : Nat), .agg #[.int .i64 a.1, .int .i64 a.2]] W fun e w' => e = .returned (.bool (Wl.reachB t p a)) ∧ Below W.heap.size W w') := fun p a hpl hs W hW => reachesW_any t A c Aw ws.length cw p a hpl (Wl.trk_sm ht p hpl) hs W (prs_keep hP hW) (by omega)
  have HWA : Hid (∀ (x : Int) W, Calls Tryz.prog 64 #[.int .i64 x, .int .i64 0, .int .i64 ((t.ps.length : Int) - 1)] W fun e w' => e = .returned (.bool (inB x 0 ((t.ps.length : Int) - 1))) ∧ w' = W) := fun x W => withinW_any _ _ _ W
  have HSW : Hid (∀ k, k < ws.length → Geo.sm (Wl.ptAt ws k)) := fun k hk => Wl.pts_sm hw hk
  have HFS0 : Hid (∀ k, Wl.fitTo t ws es (k + 1) = (Wl.fitTo t ws es k && (inB (Wl.esAt es k) 0 ((t.ps.length : Int) - 1) && Wl.reachB t (Wl.esAt es k) (Wl.ptAt ws k)))) := fun _ => rfl
  have HF0 : Hid (Wl.fitTo t ws es 0 = true) := rfl
  have HFN : Hid (∀ k, k < es.length → (inB (Wl.esAt es k) 0 ((t.ps.length : Int) - 1) && Wl.reachB t (Wl.esAt es k) (Wl.ptAt ws k)) = false → Wl.fitTo t ws es es.length = false) := fun k hk h => Wl.fitTo_no h _ hk
  have HP := Lib.hid hP
  have HQ := Lib.hid hQ
  have HE := Lib.hid hE
  have hmo : Tryz.prog.follows .mixedOrders = true := by kernel_rfl
  have hw8 : ws.length ≤ 8 := (Wl.pts_all hw).2
  have hin0 := Wl.fitTo_in _ hfit
  have hes : ∀ e ∈ es, smI e := fun e he => by
    obtain ⟨k, hk, rfl⟩ := List.getElem_of_mem he
    have := hin0 k hk
    unfold Wl.esAt at this
    rw [List.getElem?_eq_getElem hk] at this
    unfold smI
    simp only [Option.getD_some] at this
    omega
  have HNE : Hid (∀ (x : Leg) W, Calls Tryz.prog 79 #[.agg (mcV t A c Aw ws.length cw), .int .i64 x.1.1, .int .i64 x.1.2] W fun e w' => e = .returned (.bool (Wl.nearB t x.1.1 x.1.2)) ∧ Below W.heap.size W w') := fun x W => nearW_any t A c Aw ws.length cw x.1.1 x.1.2 (by have := x.2.1; unfold smI at this; omega) (by have := x.2.2; unfold smI at this; omega) (by omega) W
  have HTY : Hid ((∀ x ∈ legsTo es hes es.length, Wl.nearB t x.1.1 x.1.2 = true) → Wl.tieTo t es es.length = true) := fun h => Wl.tieTo_all t es hes h
  have HTN : Hid (∀ k, k ≤ es.length → (∃ x ∈ legsTo es hes k, Wl.nearB t x.1.1 x.1.2 = false) → Wl.tieTo t es es.length = false) := fun k hk h => Wl.tieTo_none t es hes hk h
  clear hP hQ hE ht hw hc3 hp8 hin0
  obtain ⟨ps, cl, lo, hi⟩ := t
  unfold mcV at *
  dsimp only at *
  have HFA : Hid (∀ k, k < es.length → (inB (Wl.esAt es k) 0 ((ps.length : Int) - 1) && Wl.reachB ⟨ps, cl, lo, hi⟩ (Wl.esAt es k) (Wl.ptAt ws k)) = true) := fun k hk => (Wl.fitTo_iff _).1 hfit k hk
  have hfn := Lib.hid hfit
  clear hfit HFN
  generalize Wl.fitTo ⟨ps, cl, lo, hi⟩ ws es = FT at *
  generalize Wl.tieTo ⟨ps, cl, lo, hi⟩ es es.length = TT at *
  generalize hnr : Wl.nearB ⟨ps, cl, lo, hi⟩ = NR at *
  clear hnr
  have hli : (es.length : Int) = (ws.length : Int) := by omega
  have hnb : ((es.length : Int) != (ws.length : Int)) = false := by simpa using hli
  have HL := Lib.hid hlen
  have he8 : es.length ≤ 100 := by omega
  clear hlen hli
  obtain ⟨n, hn⟩ : ∃ n : Nat, 9 ≤ n := ⟨9, Nat.le_refl _⟩
  have h1 : 1 ≤ n := by omega
  refine (callsIn_wide (n := n)).1 ?_
  refine callsIn_of_wp_marks Tryz.func61 rfl trivial ?_ rfl
  simp only [Tryz.ntmps61, List.size_toArray, List.length_cons, List.length_nil, Nat.reduceAdd, Nat.reduceSub, Array.replicate_succ, Array.replicate_zero, List.push_toArray, List.append_toArray, List.nil_append, List.cons_append]
  gi_wp2
  have bS0 := (BoxS.new w 61 #[.slice A ps.length c, .int .i64 cl, .int .i64 lo, .int .i64 hi, .slice Aw ws.length cw]).alloc (.cells #[.bool false] 4)
  have bR0 := BoxS.new (w.alloc (.cells #[.slice A ps.length c, .int .i64 cl, .int .i64 lo, .int .i64 hi, .slice Aw ws.length cw] 61)) 4 #[.bool false]
  rw [World.size_alloc] at bR0
  have hB0 : Below w.heap.size w ((w.alloc (.cells #[.slice A ps.length c, .int .i64 cl, .int .i64 lo, .int .i64 hi, .slice Aw ws.length cw] 61)).alloc (.cells #[.bool false] 4)) := by (repeat' (first | (with_reducible exact Below.refl _ _) | (with_reducible assumption) | (with_reducible refine Below.alloc ?_ ?_ _) | (with_reducible refine Below.drew ?_) | (with_reducible refine Below.setCell ?_ ?_ _) | go_size | (exact (by simp)) | omega))
  generalize World.alloc (World.alloc w _) _ = w0 at *
  have c4 := bS0.cell 4 rfl
  have l0 := bS0.lt
  try gi_wp2
  clear c4 l0 hnb
  gi_loopw [17] (fun x17 wx => ∃ k : Nat, (k : Int) ≤ es.length ∧ x17 = .int .i64 (k : Int) ∧ Hid (FT k = true) ∧ Below w.heap.size w wx ∧ BoxS wx w.heap.size 61 #[.slice A ps.length c, .int .i64 cl, .int .i64 lo, .int .i64 hi, .slice Aw ws.length cw] ∧ BoxS wx (w.heap.size + 1) 4 #[.bool false]) (fun x _ => (es.length - intOf x).toNat)
  case atStart => exact ⟨0, by omega, rfl, HF0, hB0, bS0, bR0⟩
  case round =>
    clear hB0 bS0 bR0
    obtain ⟨k, hk1, rfl, hall, hB, bS, bR⟩ := hrel
    have hk0 := Int.natCast_nonneg k
    by_cases hlt : (k : Int) < es.length
    · clear HNE HTY HTN
      have hkn : k < es.length := by omega
      have hkw : k < ws.length := by have := HL.out; omega
      have HFS := Lib.hid (HFS0.out k)
      have HA1 := Lib.hid (HFA.out k hkn)
      have HW1 := Lib.hid (HWA.out (Wl.esAt es k))
      have hsa := HSW.out k hkw
      have hek : es[k]? = some (Wl.esAt es k) := by unfold Wl.esAt; rw [List.getElem?_eq_getElem hkn]; rfl
      have hwk : ws[k]? = some (Wl.ptAt ws k) := by unfold Wl.ptAt; rw [List.getElem?_eq_getElem hkw]; rfl
      obtain ⟨bw, ow, rfl, hbw, hcw⟩ := HQ.out (by omega)
      obtain ⟨y0, y1⟩ := hcw k _ hwk
      rcases HE.out with ⟨_, e⟩ | ⟨be, oe, cape, e, hbe, hce⟩
      · subst e; simp at hkn
      injection e with eA _ ec
      subst eA ec
      have z0 := (hB.cell (p := ⟨be, _, none⟩) hbe).trans (hce k _ hek)
      have hw1 : IntKind.i64.wrap ((k : Int) + 1) = (k : Int) + 1 := IntWalk.i64_in _ (by omega)
      have hw2 : IntKind.i64.wrap ((ps.length : Int) - 1) = (ps.length : Int) - 1 := IntWalk.i64_in _ (by omega)
      have d1 : decide ((k : Int) < 0) = false := decide_eq_false (by omega)
      have d3 : decide ((ws.length : Int) ≤ (k : Int)) = false := decide_eq_false (by omega)
      have d5 : decide (ws.length ≤ k) = false := decide_eq_false (by omega)
      have hbr : be < wr.heap.size := by have := hB.size; omega
      have q0 : Below wr.heap.size wr wr.drew := (Below.refl _ _).drew
      have KC : Hid (∀ W', Below wr.heap.size wr W' → (W'.cell? ⟨w.heap.size, 0, none⟩ = some (.slice A ps.length c) ∧ W'.cell? ⟨w.heap.size, 1, none⟩ = some (.int .i64 cl) ∧ W'.cell? ⟨w.heap.size, 2, none⟩ = some (.int .i64 lo) ∧ W'.cell? ⟨w.heap.size, 3, none⟩ = some (.int .i64 hi) ∧ W'.cell? ⟨w.heap.size, 4, none⟩ = some (.slice (some ⟨bw, ow, none⟩) ws.length cw)) ∧ W'.cell? ⟨bw, ow + k * 2, none⟩ = some (.int .i64 (Wl.ptAt ws k).1) ∧ W'.cell? ⟨bw, ow + k * 2 + 1, none⟩ = some (.int .i64 (Wl.ptAt ws k).2)) := fun W' h => by
        have h2 := hB.trans (h.mono hB.size)
        have b := bS.below h
        exact ⟨⟨b.cell 0 rfl, b.cell 1 rfl, b.cell 2 rfl, b.cell 3 rfl, b.cell 4 rfl⟩, (h2.cell (p := ⟨bw, _, none⟩) hbw).trans y0, (h2.cell (p := ⟨bw, _, none⟩) hbw).trans y1⟩
      clear hce hcw hek hwk y0 y1 HFA HFS0
      generalize Wl.esAt es k = ex at *
      generalize Wl.ptAt ws k = a at *
      obtain ⟨a1, a2⟩ := a
      dsimp only at KC
      cases hin : inB ex 0 ((ps.length : Int) - 1)
      · have := HA1.out
        rw [hin] at this
        cases this
      · rw [hin] at HW1
        have hie : 0 ≤ ex ∧ ex < ps.length := by
          unfold inB at hin
          simp only [Bool.and_eq_true, decide_eq_true_eq] at hin
          omega
        obtain ⟨p, hp⟩ : ∃ p : Nat, ex = p := ⟨ex.toNat, by omega⟩
        subst hp
        have HRE := Lib.hid (fun W (hW : Below wr.heap.size wr W) => HREA.out p (a1, a2) (by omega) hsa W (hB.trans (hW.mono hB.size)))
        cases hre : Wl.reachB ⟨ps, cl, lo, hi⟩ p (a1, a2)
        · have := HA1.out
          rw [hin, hre] at this
          cases this
        · rw [hre] at HRE
          have HF2 : Hid (FT (k + 1) = true) := by unfold Hid; rw [HFS.out, hall.out, hin, hre]; rfl
          clear hin hre HA1
          gi_wp2
          clear z0
          refine wpIn_calm ?_
          refine wpIn_region_held (fun W' => Below wr.heap.size wr W') 30 hmo ?_
          refine wpHeldIn_take (i := 0) (v := ?_) (plain_of (by kernel_rfl)) rfl (by kernel_rfl) (fun _ _ _ h => h) (yieldsSoIn_of (by kernel_rfl) ?_ (fun _ => rfl)) q0 ?_; rotate_left; focus (intro wq hw; clear hw; go_simp; try (with_reducible rfl))
          refine wpHeldIn_take (i := 1) (v := ?_) (plain_of (by kernel_rfl)) rfl (by kernel_rfl) (fun _ _ _ h => h) (yieldsSoIn_of (by kernel_rfl) ?_ (fun _ => rfl)) q0 ?_; rotate_left; focus (intro wq hw; clear hw; go_simp; try (with_reducible rfl))
          refine wpHeldIn_take (i := 2) (v := ?_) (plain_of (by kernel_rfl)) rfl (by kernel_rfl) (fun _ _ _ h => h) (yieldsSoIn_of (by kernel_rfl) ?_ (fun _ => rfl)) q0 ?_; rotate_left; focus (intro wq hw; clear hw; go_simp; try (with_reducible rfl))
          refine wpHeldIn_take (i := 3) (v := ?_) (plain_of (by kernel_rfl)) rfl (by kernel_rfl) (fun _ _ _ h => h) (yieldsSoIn_of (by kernel_rfl) ?_ (fun _ => rfl)) q0 ?_; rotate_left; focus (intro wq hw; have kq := KC.out wq hw; clear hw; go_simp; try (with_reducible rfl))
          refine wpHeldIn_take (i := 4) (v := ?_) (plain_of (by kernel_rfl)) rfl (by kernel_rfl) (fun _ _ _ h => h) (yieldsSoIn_of (by kernel_rfl) ?_ (fun _ => rfl)) q0 ?_; rotate_left; focus (intro wq hw; clear hw; go_simp; try (with_reducible rfl))
          refine wpHeldIn_take (i := 5) (v := ?_) (plain_of (by kernel_rfl)) rfl (by kernel_rfl) (fun _ _ _ h => h) (yieldsSoIn_of (by kernel_rfl) ?_ (fun _ => rfl)) q0 ?_; rotate_left; focus (intro wq hw; clear hw; go_simp; try (with_reducible rfl))
          refine wpHeldIn_one (i := 6) (by kernel_rfl) (by kernel_rfl) rfl (by kernel_rfl) (fun K1 hK1 => ?_)
          go_simp
          refine ⟨trivial, (callsIn_wide.2 (HW1.out _)).mono ?_⟩
          rintro e w2 ⟨rfl, hw2⟩
          have hw2 := hw2.symm
          subst hw2
          refine hK1 _ _ q0 ?_
          refine wpHeldIn_take (i := 7) (v := ?_) (plain_of (by kernel_rfl)) rfl (by kernel_rfl) (fun _ _ _ h => h) (yieldsSoIn_of (by kernel_rfl) ?_ (fun _ => rfl)) q0 ?_; rotate_left; focus (intro wq hw; clear hw; go_simp; try (with_reducible rfl))
          refine wpHeldIn_take (i := 8) (v := ?_) (plain_of (by kernel_rfl)) rfl (by kernel_rfl) (fun _ _ _ h => h) (yieldsSoIn_of (by kernel_rfl) ?_ (fun _ => rfl)) q0 ?_; rotate_left; focus (intro wq hw; clear hw; go_simp; try (with_reducible rfl))
          refine wpHeldIn_take (i := 9) (v := ?_) (plain_of (by kernel_rfl)) rfl (by kernel_rfl) (fun _ _ _ h => h) (yieldsSoIn_of (by kernel_rfl) ?_ (fun _ => rfl)) q0 ?_; rotate_left; focus (intro wq hw; have kq := KC.out wq hw; clear hw; go_simp; try (with_reducible rfl))
          refine wpHeldIn_take (i := 10) (v := ?_) (plain_of (by kernel_rfl)) rfl (by kernel_rfl) (fun _ _ _ h => h) (yieldsSoIn_of (by kernel_rfl) ?_ (fun _ => rfl)) q0 ?_; rotate_left; focus (intro wq hw; clear hw; go_simp; try (with_reducible rfl))
          refine wpHeldIn_take (i := 11) (v := ?_) (plain_of (by kernel_rfl)) rfl (by kernel_rfl) (fun _ _ _ h => h) (yieldsSoIn_of (by kernel_rfl) ?_ (fun _ => rfl)) q0 ?_; rotate_left; focus (intro wq hw; clear hw; go_simp; try (with_reducible rfl))
          refine wpHeldIn_take (i := 12) (v := ?_) (plain_of (by kernel_rfl)) rfl (by kernel_rfl) (fun _ _ _ h => h) (yieldsSoIn_of (by kernel_rfl) ?_ (fun _ => rfl)) q0 ?_; rotate_left; focus (intro wq hw; have kq := KC.out wq hw; clear hw; go_simp; try (with_reducible rfl))
          refine wpHeldIn_take (i := 13) (v := ?_) (plain_of (by kernel_rfl)) rfl (by kernel_rfl) (fun _ _ _ h => h) (yieldsSoIn_of (by kernel_rfl) ?_ (fun _ => rfl)) q0 ?_; rotate_left; focus (intro wq hw; clear hw; go_simp; try (with_reducible rfl))
          refine wpHeldIn_take (i := 14) (v := ?_) (plain_of (by kernel_rfl)) rfl (by kernel_rfl) (fun _ _ _ h => h) (yieldsSoIn_of (by kernel_rfl) ?_ (fun _ => rfl)) q0 ?_; rotate_left; focus (intro wq hw; clear hw; go_simp; try (with_reducible rfl))
          refine wpHeldIn_take (i := 15) (v := ?_) (plain_of (by kernel_rfl)) rfl (by kernel_rfl) (fun _ _ _ h => h) (yieldsSoIn_of (by kernel_rfl) ?_ (fun _ => rfl)) q0 ?_; rotate_left; focus (intro wq hw; have kq := KC.out wq hw; clear hw; go_simp; try (with_reducible rfl))
          refine wpHeldIn_one (i := 16) (by kernel_rfl) (by kernel_rfl) rfl (by kernel_rfl) (fun K2 hK2 => ?_)
          go_simp
          refine ⟨trivial, (callsIn_wide.2 (HRE.out _ q0)).mono ?_⟩
          rintro e w5 ⟨rfl, hb5⟩
          have q1 := q0.trans (hb5.mono q0.size)
          refine hK2 _ _ q1 ?_
          refine wpHeldIn_take (i := 17) (v := ?_) (plain_of (by kernel_rfl)) rfl (by kernel_rfl) (fun _ _ _ h => h) (yieldsSoIn_of (by kernel_rfl) ?_ (fun _ => rfl)) q1 ?_; rotate_left; focus (intro wq hw; clear hw; go_simp; try (with_reducible rfl))
          refine wpHeldIn_take (i := 18) (v := ?_) (plain_of (by kernel_rfl)) rfl (by kernel_rfl) (fun _ _ _ h => h) (yieldsSoIn_of (by kernel_rfl) ?_ (fun _ => rfl)) q1 ?_; rotate_left; focus (intro wq hw; clear hw; go_simp; try (with_reducible rfl))
          refine wpHeldIn_done (by kernel_rfl) (calm_normal ?_) _
          go_simp
          have bS5 := bS.below q1
          have bR5 := bR.below q1
          have hB5 := hB.trans (q1.mono hB.size)
          clear KC
          gi_wp2
          go_roundw
          case rel => exact ⟨k + 1, by omega, by go_num, HF2, hB5, bS5, bR5⟩
          case measure => simp [intOf]; omega
    · have ek : k = es.length := by omega
      clear hall HREA HWA HSW HFS0 HF0 hfn HFA ek hk1 hk0
      gi_wp2_with (refine ⟨trivial, ?_⟩; gi_at_call 62; refine (aroundI0_in Fence.wide (n - 1) trivial rfl _ _ _ _).mono ?_; rintro e w' ⟨rfl, rfl⟩)
      have bA := Boxed.new wr 27 (.slice Ae es.length ce)
      have bS1 := bS.alloc (.cells #[.slice Ae es.length ce] 27)
      have bR1 := bR.alloc (.cells #[.slice Ae es.length ce] 27)
      have hB1 : Below w.heap.size w (wr.alloc (.cells #[.slice Ae es.length ce] 27)) := hB.alloc hB.size _
      have hsz : (wr.alloc (.cells #[.slice Ae es.length ce] 27)).heap.size = wr.heap.size + 1 := by simp
      have hzw := hB.size
      have lR := bR.lt
      have hE1 := HE.out.keep hB1
      obtain ⟨W0, hW0⟩ : ∃ W0, (wr.alloc (.cells #[.slice Ae es.length ce] 27)) = W0 := ⟨_, rfl⟩
      rw [hW0] at bA bS1 bR1 hB1 hsz hE1 ⊢
      clear hW0
      refine wpIn_rangeFunc_ownH rfl h1 (gf := 85) (lb := #[.pointer (some ⟨wr.heap.size, 0, none⟩)]) rfl trivial (enters_of Tryz.func85 (by kernel_rfl) rfl)
        (aroundI_stops Fence.wide (n - 1) trivial rfl (by omega) wr.heap.size w.heap.size Ae ce es hes he8 W0 bA (by omega) hE1) KpS.trans (fun W l o o' hl _ _ _ => KpS.putObj W (by omega) (by omega) o') (Below.refl _ _) (fun _ => rfl)
        (fun pre W => (((∀ x ∈ pre, NR x.1.1 x.1.2 = true) ∧ Boxed W (w.heap.size + 1) 4 (.bool false)) ∧ BoxS W w.heap.size 61 #[.slice A ps.length c, .int .i64 cl, .int .i64 lo, .int .i64 hi, .slice Aw ws.length cw]) ∧ Below w.heap.size w W)
        (fun cc pre W => ((cc = .ret ∧ ∃ x ∈ pre, NR x.1.1 x.1.2 = false) ∧ Boxed W (w.heap.size + 1) 4 (.bool false)) ∧ Below w.heap.size w W)
        (OwnFrom.and (OwnFrom.and (OwnFrom.and (ownFrom_pure _ _) (Own.from (boxed_own _ _ (fun _ => _)) _)) (Own.from (boxS_own _ _ (fun _ => _)) _)) (ownFrom_below (Nat.le_refl _) (by omega)))
        (fun cc => OwnFrom.and (OwnFrom.and (ownFrom_pure _ _) (Own.from (boxed_own _ _ (fun _ => _)) _)) (ownFrom_below (Nat.le_refl _) (by omega)))
        ⟨⟨⟨by simp, bR1⟩, bS1⟩, hB1⟩
        (fun x a' _ => a' = { tmps := #[.agg #[.slice A ps.length c, .int .i64 cl, .int .i64 lo, .int .i64 hi, .slice Aw ws.length cw], .slice Ae es.length ce, .pointer (some ⟨w.heap.size, 0, none⟩), undef, .pointer (some ⟨w.heap.size + 1, 0, none⟩), u5, u6, .int .i64 x.1.1, .int .i64 x.1.2, .slice Ae es.length ce, .int .i64 es.length, .pointer (some ⟨w.heap.size, 4, none⟩), .slice Aw ws.length cw, .int .i64 ws.length, .bool false, .slice Ae es.length ce, .int .i64 es.length, .int .i64 k, .bool false, u19, u20, u21, u22, u23, u24, u25, u26, u27, u28, u29, u30, u31, u32, u33, u34, u35, u36, u37, u38, u39, u40, u41, .slice Ae es.length ce, .func (.func 85) #[] #[.pointer (some ⟨wr.heap.size, 0, none⟩)], .int .i64 x.1.1, .int .i64 x.1.2, undef, undef, undef, undef, undef], defers := [] })
        (fun x a' _ X Y row hs hg hr => hs)
        ?assign ?body ?done ?stop
      case assign =>
        rintro l pre x W K ⟨⟨⟨hp, bR2⟩, bS2⟩, hB2⟩ hK
        have HQ := Lib.hid hp
        clear hp
        gi_wp2
        exact hK _ _ ((KeepsOthers.refl _).from _) (KpS.refl _ _ _) ⟨⟨⟨HQ.out, bR2⟩, bS2⟩, hB2⟩ rfl
      case body =>
        rintro l pre x a' W hl ⟨r, hr⟩ ⟨⟨⟨hp, bR2⟩, bS2⟩, hB2⟩ rfl hlt
        have HQ := Lib.hid hp
        clear hp
        have HN := Lib.hid (HNE.out x)
        have h1' : 1 ≤ n - 1 - 1 := by omega
        have s0 := bS2.cell 0 rfl
        have s1 := bS2.cell 1 rfl
        have s2 := bS2.cell 2 rfl
        have s3 := bS2.cell 3 rfl
        have s4 := bS2.cell 4 rfl
        have lS := bS2.lt
        have hsW := hB2.size
        cases hb : NR x.1.1 x.1.2 with
        | false =>
          rw [hb] at HN
          have hb := Lib.hid hb
          gi_wp2
          refine ⟨trivial, (CallsIn.inRound l (callsIn_wide.2 (HN.out _))).mono ?_⟩
          rintro e w2 ⟨rfl, hb2⟩
          clear s0 s1 s2 s3 s4 lS
          have bR3 := boxed_below bR2 hb2
          have cR := bR3.cell
          have fR := bR3.frozen
          gi_wp2
          exact ⟨(keepsFrom_below _ hb2).trans ((KeepsOthers.setCell _ _ _).from _), ⟨⟨rfl, x, List.mem_append.2 (.inr (by simp)), hb.out⟩, bR3.set _⟩, (hB2.trans (hb2.mono hsW)).setCell (p := ⟨w.heap.size + 1, 0, none⟩) (by simp) _⟩
        | true =>
          rw [hb] at HN
          have hb := Lib.hid hb
          gi_wp2
          refine ⟨trivial, (CallsIn.inRound l (callsIn_wide.2 (HN.out _))).mono ?_⟩
          rintro e w2 ⟨rfl, hb2⟩
          clear s0 s1 s2 s3 s4 lS
          have bR3 := boxed_below bR2 hb2
          have bS3 := bS2.below hb2
          gi_wp2
          exact ⟨keepsFrom_below _ hb2, KpS.of_below hb2 hsW, ⟨⟨fun z hz => (List.mem_append.1 hz).elim (HQ.out z) (fun e => by rw [List.mem_singleton] at e; subst e; exact hb.out), bR3⟩, bS3⟩, hB2.trans (hb2.mono hsW)⟩
      case done =>
        rintro D zs W hD rfl ⟨⟨⟨hp, bR2⟩, bS2⟩, hB2⟩ hK
        have HQ := Lib.hid (HTY.out hp)
        clear hp
        have cR := bR2.cell
        have fR := bR2.frozen
        gi_wp2
        have hK' := (KeepsOthers.setCell W ⟨w.heap.size + 1, 0, none⟩ (.bool true)).same D _ hK rfl
        refine ⟨by simp, .inl ⟨_, _, rfl, run_takeDeferred hK', ?_⟩⟩
        have hc5 := cell_kept (bR2.set (.bool true)).cell (grownBy_putObj' _ D (.deferred none)) (fun r e => by cases e; exact ⟨_, hK', rfl⟩)
        refine ⟨.bool true, ?_, by rw [HQ.out], (hB2.setCell (p := ⟨w.heap.size + 1, 0, none⟩) (by simp) _).trans (belowK_b (w := w) (Nat.le_refl _) _ D _ _ (by omega) hK' rfl rfl)⟩
        simp [results, Tryz.f61, go_sem, hc5]
      case stop =>
        rintro D cc pre W hD ⟨kk, hkk, rfl⟩ ⟨⟨⟨rfl, x, hx, hn⟩, bR2⟩, hB2⟩ hK
        have HQ := Lib.hid (HTN.out kk hkk ⟨x, hx, hn⟩)
        gi_wp2
        refine ⟨by simp, .inl ⟨_, _, rfl, run_takeDeferred hK, ?_⟩⟩
        have hc5 := cell_kept bR2.cell (grownBy_putObj' _ D (.deferred none)) (fun r e => by cases e; exact ⟨_, hK, rfl⟩)
        refine ⟨.bool false, ?_, by rw [HQ.out], hB2.trans (belowK_b (w := w) (Nat.le_refl _) W D _ _ (by omega) hK rfl rfl)⟩
        simp [results, Tryz.f61, go_sem, hc5]
theorem carryW_any (t : Wl.Trk) (ws : List Wl.Pt) (es : List Int) (A Aw Ae : Option Addr) (c cw ce : Nat) (ht : Wl.trkB t = true) (hw : Wl.ptsB ws = true) (hle : es.length ≤ 1000000000) (hlw : ws.length ≤ 1000000000) (w : World) (hP : Prs w w.heap.size A t.ps) (hQ : Prs w w.heap.size Aw ws) (hE : Ints w w.heap.size (.slice Ae es.length ce) es) :
    Calls Tryz.prog 61 #[.agg (mcV t A c Aw ws.length cw), .slice Ae es.length ce] w fun e w' => e = .returned (.bool (Wl.elbV t ws es)) ∧ Below w.heap.size w w' := by
  by_cases h : es.length = ws.length ∧ Wl.fitTo t ws es es.length = true
  · have := carryW_yes t ws es A Aw Ae c cw ce ht hw hle hlw w hP hQ hE h.1 h.2
    unfold Wl.elbV
    rw [h.2, Bool.true_and, decide_eq_true h.1, Bool.true_and]
    exact this
  · have := carryW_no t ws es A Aw Ae c cw ce ht hw hle hlw w hP hQ hE (by
      by_cases h1 : es.length = ws.length
      · right
        cases h2 : Wl.fitTo t ws es es.length with
        | false => rfl
        | true => exact absurd ⟨h1, h2⟩ h
      · exact .inl h1)
    have e : Wl.elbV t ws es = false := by
      unfold Wl.elbV
      by_cases h1 : es.length = ws.length
      · cases h2 : Wl.fitTo t ws es es.length with
        | false => simp
        | true => exact absurd ⟨h1, h2⟩ h
      · simp [h1]
    rw [e]
    exact this
namespace Wl
/-- The error of elbows that are asked for. -/
def movE (t : Trk) (ws : List Pt) (es : List Int) : Int := if chkV t ws = 0 then (if elbV t ws es then 0 else 1) else chkV t ws
theorem chk_yes {t : Trk} {ws : List Pt} : chkV t ws = 0 ↔ trkB t = true ∧ ptsB ws = true := by
  unfold chkV
  cases trkB t <;> cases ptsB ws <;> simp
theorem movE_yes {t : Trk} {ws : List Pt} {es : List Int} (h : movE t ws es = 0) : (trkB t = true ∧ ptsB ws = true) ∧ elbV t ws es = true := by
  unfold movE at h
  split at h
  · rename_i hc
    refine ⟨chk_yes.1 hc, ?_⟩
    cases he : elbV t ws es with
    | true => rfl
    | false => rw [he] at h; cases h
  · rename_i hc; exact absurd h hc
end Wl
/-- The machine, or none where there is an error. -/
def mcE (x : Int) (t : Wl.Trk) (A : Option Addr) (c : Nat) (Aw : Option Addr) (m cw : Nat) : Array Value := if x = 0 then mcV t A c Aw m cw else #[.slice none 0 0, .int .i64 0, .int .i64 0, .int .i64 0, .slice none 0 0]
def McPost (t : Wl.Trk) (A : Option Addr) (c : Nat) (Aw : Option Addr) (m cw : Nat) (x : Int) (w : World) (e : Ending) (w' : World) : Prop := e = .returned (.tuple #[.agg (mcE x t A c Aw m cw), .int .i64 x]) ∧ Below w.heap.size w w'
theorem below_put {W W' : World} {B : Nat} {p : Addr} {v : Value} (h : Below B W W') (hp : B ≤ p.block) : Below B W (W'.setCell p v) := h.setCell hp v
end Go.Proofs.YtmjcdggmofohcaaGreat
namespace Go.Proofs.YtmjcdggmofohcaaGreat
open Go.RowKit
set_option maxRecDepth 100000 in
set_option maxHeartbeats 8000000 in
theorem movedW_any (t : Wl.Trk) (ws : List Wl.Pt) (es : List Int) (A Aw Ae : Option Addr) (c cw ce : Nat) (hl : t.ps.length ≤ 1000000000) (hle : es.length ≤ 1000000000) (hlw : ws.length ≤ 1000000000) (w : World) (hP : Prs w w.heap.size A t.ps) (hQ : Prs w w.heap.size Aw ws) (hE : Ints w w.heap.size (.slice Ae es.length ce) es) :
    Calls Tryz.prog 35 #[.agg (trV t A c), .slice Aw ws.length cw, .slice Ae es.length ce] w (McPost t A c Aw ws.length cw (Wl.movE t ws es) w) := by
  have HC : Hid (∀ W, Below w.heap.size w W → Calls Tryz.prog 55 #[.agg (trV t A c), .slice Aw ws.length cw] W (ErrPost (Wl.chkV t ws) W)) := fun W hW => CheckW_any t ws A Aw c cw hl hlw W (prs_keep hP hW) (prs_keep hQ hW)
  have HCA : Hid (Wl.chkV t ws = 0 → ∀ W, Below w.heap.size w W → Calls Tryz.prog 61 #[.agg (mcV t A c Aw ws.length cw), .slice Ae es.length ce] W fun e w' => e = .returned (.bool (Wl.elbV t ws es)) ∧ Below W.heap.size W w') := fun h W hW => carryW_any t ws es A Aw Ae c cw ce (Wl.chk_yes.1 h).1 (Wl.chk_yes.1 h).2 hle hlw W (prs_keep hP hW) (prs_keep hQ hW) ((hE.keep hW).more hW.size)
  have HM : Hid (Wl.movE t ws es = if Wl.chkV t ws = 0 then (if Wl.elbV t ws es then 0 else 1) else Wl.chkV t ws) := rfl
  clear hP hQ hE hl hle hlw
  unfold ErrPost at HC
  unfold McPost
  generalize Wl.movE t ws es = ME at *
  generalize Wl.chkV t ws = CE at *
  generalize Wl.elbV t ws es = EB at *
  obtain ⟨ps, cl, lo, hi⟩ := t
  unfold mcE
  unfold trV mcV at *
  dsimp only at *
  by_cases h0 : CE = 0
  · subst h0
    have HC1 := Lib.hid (HCA.out rfl)
    rw [if_pos rfl] at HM
    clear HCA
    cases EB with
    | true =>
      have HM2 : Hid (ME = 0) := HM.out
      clear HM
      subst HM2
      rw [if_pos rfl]
      go_enter Tryz.func35, Tryz.ntmps35
      go_wp2_with fail
      have bT := (BoxS.new w 26 #[.slice A ps.length c, .int .i64 cl, .int .i64 lo, .int .i64 hi]).alloc (.cells #[.slice none 0 0, .int .i64 0, .int .i64 0, .int .i64 0, .slice none 0 0] 61)
      have bX := BoxS.new (w.alloc (.cells #[.slice A ps.length c, .int .i64 cl, .int .i64 lo, .int .i64 hi] 26)) 61 #[.slice none 0 0, .int .i64 0, .int .i64 0, .int .i64 0, .slice none 0 0]
      rw [World.size_alloc] at bX
      have hB1 : Below w.heap.size w ((w.alloc (.cells #[.slice A ps.length c, .int .i64 cl, .int .i64 lo, .int .i64 hi] 26)).alloc (.cells #[.slice none 0 0, .int .i64 0, .int .i64 0, .int .i64 0, .slice none 0 0] 61)) := by (repeat' (first | (with_reducible exact Below.refl _ _) | (with_reducible assumption) | (with_reducible refine Below.alloc ?_ ?_ _) | (with_reducible refine Below.drew ?_) | (with_reducible refine Below.setCell ?_ ?_ _) | go_size | (exact (by simp)) | omega))
      generalize World.alloc (World.alloc w _) _ = w1 at *
      refine (HC.out _ hB1).mono ?_
      rintro e w2 ⟨rfl, hb2⟩
      have hB2 := hB1.trans (hb2.mono hB1.size)
      have bT2 := bT.below hb2
      have bX2 := bX.below hb2
      have t0 := bT2.cell 0 rfl
      have t1 := bT2.cell 1 rfl
      have t2 := bT2.cell 2 rfl
      have t3 := bT2.cell 3 rfl
      have lt := bT2.lt
      go_wp2_with fail
      have bM := BoxS.new w2 61 #[.slice A ps.length c, .int .i64 cl, .int .i64 lo, .int .i64 hi, .slice Aw ws.length cw]
      have bX3 := bX2.alloc (.cells #[.slice A ps.length c, .int .i64 cl, .int .i64 lo, .int .i64 hi, .slice Aw ws.length cw] 61)
      have hB3 : Below w.heap.size w (w2.alloc (.cells #[.slice A ps.length c, .int .i64 cl, .int .i64 lo, .int .i64 hi, .slice Aw ws.length cw] 61)) := hB2.alloc hB2.size _
      have hne : w.heap.size + 1 < w2.heap.size := by have := hb2.size; have := bX.lt; omega
      clear t0 t1 t2 t3 lt bT bX hB1 hb2 bT2 bX2 hB2
      generalize World.alloc w2 _ = w3 at *
      refine (HC1.out _ hB3).mono ?_
      rintro e w4 ⟨rfl, hb4⟩
      have bM4 := bM.below hb4
      have bX4 := bX3.below hb4
      have hB4 := hB3.trans (hb4.mono hB3.size)
      clear HC HC1 bM bX3 hb4
      have m0 := bM4.cell 0 rfl
      have m1 := bM4.cell 1 rfl
      have m2 := bM4.cell 2 rfl
      have m3 := bM4.cell 3 rfl
      have m4 := bM4.cell 4 rfl
      have lm := bM4.lt
      have x0 := bX4.cell 0 rfl
      have x1 := bX4.cell 1 rfl
      have x2 := bX4.cell 2 rfl
      have x3 := bX4.cell 3 rfl
      have x4 := bX4.cell 4 rfl
      have gx0 := bX4.frozen 0
      have gx1 := bX4.frozen 1
      have gx2 := bX4.frozen 2
      have gx3 := bX4.frozen 3
      have gx4 := bX4.frozen 4
      have lx := bX4.lt
      go_wp2_with fail
      have bY : BoxS (((((w4.setCell ⟨w.heap.size + 1, 0, none⟩ (.slice A ps.length c)).setCell ⟨w.heap.size + 1, 1, none⟩ (.int .i64 cl)).setCell ⟨w.heap.size + 1, 2, none⟩ (.int .i64 lo)).setCell ⟨w.heap.size + 1, 3, none⟩ (.int .i64 hi)).setCell ⟨w.heap.size + 1, 4, none⟩ (.slice Aw ws.length cw)) (w.heap.size + 1) 61 #[.slice A ps.length c, .int .i64 cl, .int .i64 lo, .int .i64 hi, .slice Aw ws.length cw] := (((((bX4.put9 0 (.slice A ps.length c)).put9 1 (.int .i64 cl)).put9 2 (.int .i64 lo)).put9 3 (.int .i64 hi)).put9 4 (.slice Aw ws.length cw))
      have y0 := bY.cell 0 rfl
      have y1 := bY.cell 1 rfl
      have y2 := bY.cell 2 rfl
      have y3 := bY.cell 3 rfl
      have y4 := bY.cell 4 rfl
      have hBY : Below w.heap.size w (((((w4.setCell ⟨w.heap.size + 1, 0, none⟩ (.slice A ps.length c)).setCell ⟨w.heap.size + 1, 1, none⟩ (.int .i64 cl)).setCell ⟨w.heap.size + 1, 2, none⟩ (.int .i64 lo)).setCell ⟨w.heap.size + 1, 3, none⟩ (.int .i64 hi)).setCell ⟨w.heap.size + 1, 4, none⟩ (.slice Aw ws.length cw)) := by have := hB4; (repeat' (first | (with_reducible exact Below.refl _ _) | (with_reducible assumption) | (with_reducible refine Below.alloc ?_ ?_ _) | (with_reducible refine Below.drew ?_) | (with_reducible refine Below.setCell ?_ ?_ _) | go_size | (exact (by simp)) | omega))
      first
        | (refine bodyPost_ret (v := .tuple #[.agg #[.slice A ps.length c, .int .i64 cl, .int .i64 lo, .int .i64 hi, .slice Aw ws.length cw], .int .i64 0]) (by simp [results, Tryz.f35, go_sem, y0, y1, y2, y3, y4]) rfl ?_; exact ⟨rfl, hBY⟩)
        | (refine bodyPost_ret (v := .tuple #[.agg #[.slice A ps.length c, .int .i64 cl, .int .i64 lo, .int .i64 hi, .slice Aw ws.length cw], .int .i64 0]) (by simp [results, Tryz.f35, go_sem, x0, x1, x2, x3, x4]) rfl ?_; exact ⟨rfl, hB4⟩)
    | false =>
      have HM2 : Hid (ME = 1) := HM.out
      clear HM
      subst HM2
      rw [if_neg (by decide)]
      go_enter Tryz.func35, Tryz.ntmps35
      go_wp2_with fail
      have bT := (BoxS.new w 26 #[.slice A ps.length c, .int .i64 cl, .int .i64 lo, .int .i64 hi]).alloc (.cells #[.slice none 0 0, .int .i64 0, .int .i64 0, .int .i64 0, .slice none 0 0] 61)
      have bX := BoxS.new (w.alloc (.cells #[.slice A ps.length c, .int .i64 cl, .int .i64 lo, .int .i64 hi] 26)) 61 #[.slice none 0 0, .int .i64 0, .int .i64 0, .int .i64 0, .slice none 0 0]
      rw [World.size_alloc] at bX
      have hB1 : Below w.heap.size w ((w.alloc (.cells #[.slice A ps.length c, .int .i64 cl, .int .i64 lo, .int .i64 hi] 26)).alloc (.cells #[.slice none 0 0, .int .i64 0, .int .i64 0, .int .i64 0, .slice none 0 0] 61)) := by (repeat' (first | (with_reducible exact Below.refl _ _) | (with_reducible assumption) | (with_reducible refine Below.alloc ?_ ?_ _) | (with_reducible refine Below.drew ?_) | (with_reducible refine Below.setCell ?_ ?_ _) | go_size | (exact (by simp)) | omega))
      generalize World.alloc (World.alloc w _) _ = w1 at *
      refine (HC.out _ hB1).mono ?_
      rintro e w2 ⟨rfl, hb2⟩
      have hB2 := hB1.trans (hb2.mono hB1.size)
      have bT2 := bT.below hb2
      have bX2 := bX.below hb2
      have t0 := bT2.cell 0 rfl
      have t1 := bT2.cell 1 rfl
      have t2 := bT2.cell 2 rfl
      have t3 := bT2.cell 3 rfl
      have lt := bT2.lt
      go_wp2_with fail
      have bM := BoxS.new w2 61 #[.slice A ps.length c, .int .i64 cl, .int .i64 lo, .int .i64 hi, .slice Aw ws.length cw]
      have bX3 := bX2.alloc (.cells #[.slice A ps.length c, .int .i64 cl, .int .i64 lo, .int .i64 hi, .slice Aw ws.length cw] 61)
      have hB3 : Below w.heap.size w (w2.alloc (.cells #[.slice A ps.length c, .int .i64 cl, .int .i64 lo, .int .i64 hi, .slice Aw ws.length cw] 61)) := hB2.alloc hB2.size _
      have hne : w.heap.size + 1 < w2.heap.size := by have := hb2.size; have := bX.lt; omega
      clear t0 t1 t2 t3 lt bT bX hB1 hb2 bT2 bX2 hB2
      generalize World.alloc w2 _ = w3 at *
      refine (HC1.out _ hB3).mono ?_
      rintro e w4 ⟨rfl, hb4⟩
      have bM4 := bM.below hb4
      have bX4 := bX3.below hb4
      have hB4 := hB3.trans (hb4.mono hB3.size)
      clear HC HC1 bM bX3 hb4
      have x0 := bX4.cell 0 rfl
      have x1 := bX4.cell 1 rfl
      have x2 := bX4.cell 2 rfl
      have x3 := bX4.cell 3 rfl
      have x4 := bX4.cell 4 rfl
      have gx0 := bX4.frozen 0
      have gx1 := bX4.frozen 1
      have gx2 := bX4.frozen 2
      have gx3 := bX4.frozen 3
      have gx4 := bX4.frozen 4
      have lx := bX4.lt
      go_wp2_with fail
      have bY : BoxS (((((w4.setCell ⟨w.heap.size + 1, 0, none⟩ (.slice none 0 0)).setCell ⟨w.heap.size + 1, 1, none⟩ (.int .i64 0)).setCell ⟨w.heap.size + 1, 2, none⟩ (.int .i64 0)).setCell ⟨w.heap.size + 1, 3, none⟩ (.int .i64 0)).setCell ⟨w.heap.size + 1, 4, none⟩ (.slice none 0 0)) (w.heap.size + 1) 61 #[.slice none 0 0, .int .i64 0, .int .i64 0, .int .i64 0, .slice none 0 0] := (((((bX4.put9 0 (.slice none 0 0)).put9 1 (.int .i64 0)).put9 2 (.int .i64 0)).put9 3 (.int .i64 0)).put9 4 (.slice none 0 0))
      have y0 := bY.cell 0 rfl
      have y1 := bY.cell 1 rfl
      have y2 := bY.cell 2 rfl
      have y3 := bY.cell 3 rfl
      have y4 := bY.cell 4 rfl
      have hBY : Below w.heap.size w (((((w4.setCell ⟨w.heap.size + 1, 0, none⟩ (.slice none 0 0)).setCell ⟨w.heap.size + 1, 1, none⟩ (.int .i64 0)).setCell ⟨w.heap.size + 1, 2, none⟩ (.int .i64 0)).setCell ⟨w.heap.size + 1, 3, none⟩ (.int .i64 0)).setCell ⟨w.heap.size + 1, 4, none⟩ (.slice none 0 0)) := by have := hB4; (repeat' (first | (with_reducible exact Below.refl _ _) | (with_reducible assumption) | (with_reducible refine Below.alloc ?_ ?_ _) | (with_reducible refine Below.drew ?_) | (with_reducible refine Below.setCell ?_ ?_ _) | go_size | (exact (by simp)) | omega))
      first
        | (refine bodyPost_ret (v := .tuple #[.agg #[.slice none 0 0, .int .i64 0, .int .i64 0, .int .i64 0, .slice none 0 0], .int .i64 1]) (by simp [results, Tryz.f35, go_sem, y0, y1, y2, y3, y4]) rfl ?_; exact ⟨rfl, hBY⟩)
        | (refine bodyPost_ret (v := .tuple #[.agg #[.slice none 0 0, .int .i64 0, .int .i64 0, .int .i64 0, .slice none 0 0], .int .i64 1]) (by simp [results, Tryz.f35, go_sem, x0, x1, x2, x3, x4]) rfl ?_; exact ⟨rfl, hB4⟩)
  · rw [if_neg h0] at HM
    have HM2 : Hid (ME = CE) := HM.out
    clear HM HCA
    subst HM2
    rw [if_neg h0]
    have hce : (ME == 0) = false := by simpa using h0
    have hcn : (ME != 0) = true := by simpa using h0
    go_enter Tryz.func35, Tryz.ntmps35
    go_wp2_with fail
    have bT := (BoxS.new w 26 #[.slice A ps.length c, .int .i64 cl, .int .i64 lo, .int .i64 hi]).alloc (.cells #[.slice none 0 0, .int .i64 0, .int .i64 0, .int .i64 0, .slice none 0 0] 61)
    have bX := BoxS.new (w.alloc (.cells #[.slice A ps.length c, .int .i64 cl, .int .i64 lo, .int .i64 hi] 26)) 61 #[.slice none 0 0, .int .i64 0, .int .i64 0, .int .i64 0, .slice none 0 0]
    rw [World.size_alloc] at bX
    have hB1 : Below w.heap.size w ((w.alloc (.cells #[.slice A ps.length c, .int .i64 cl, .int .i64 lo, .int .i64 hi] 26)).alloc (.cells #[.slice none 0 0, .int .i64 0, .int .i64 0, .int .i64 0, .slice none 0 0] 61)) := by (repeat' (first | (with_reducible exact Below.refl _ _) | (with_reducible assumption) | (with_reducible refine Below.alloc ?_ ?_ _) | (with_reducible refine Below.drew ?_) | (with_reducible refine Below.setCell ?_ ?_ _) | go_size | (exact (by simp)) | omega))
    generalize World.alloc (World.alloc w _) _ = w1 at *
    refine (HC.out _ hB1).mono ?_
    rintro e w2 ⟨rfl, hb2⟩
    have hB2 := hB1.trans (hb2.mono hB1.size)
    have bT2 := bT.below hb2
    have bX2 := bX.below hb2
    have x0 := bX2.cell 0 rfl
    have x1 := bX2.cell 1 rfl
    have x2 := bX2.cell 2 rfl
    have x3 := bX2.cell 3 rfl
    have x4 := bX2.cell 4 rfl
    have gx0 := bX2.frozen 0
    have gx1 := bX2.frozen 1
    have gx2 := bX2.frozen 2
    have gx3 := bX2.frozen 3
    have gx4 := bX2.frozen 4
    have lx := bX2.lt
    go_wp2_with fail
    have bY : BoxS (((((w2.setCell ⟨w.heap.size + 1, 0, none⟩ (.slice none 0 0)).setCell ⟨w.heap.size + 1, 1, none⟩ (.int .i64 0)).setCell ⟨w.heap.size + 1, 2, none⟩ (.int .i64 0)).setCell ⟨w.heap.size + 1, 3, none⟩ (.int .i64 0)).setCell ⟨w.heap.size + 1, 4, none⟩ (.slice none 0 0)) (w.heap.size + 1) 61 #[.slice none 0 0, .int .i64 0, .int .i64 0, .int .i64 0, .slice none 0 0] := (((((bX2.put9 0 (.slice none 0 0)).put9 1 (.int .i64 0)).put9 2 (.int .i64 0)).put9 3 (.int .i64 0)).put9 4 (.slice none 0 0))
    have y0 := bY.cell 0 rfl
    have y1 := bY.cell 1 rfl
    have y2 := bY.cell 2 rfl
    have y3 := bY.cell 3 rfl
    have y4 := bY.cell 4 rfl
    have hBY : Below w.heap.size w (((((w2.setCell ⟨w.heap.size + 1, 0, none⟩ (.slice none 0 0)).setCell ⟨w.heap.size + 1, 1, none⟩ (.int .i64 0)).setCell ⟨w.heap.size + 1, 2, none⟩ (.int .i64 0)).setCell ⟨w.heap.size + 1, 3, none⟩ (.int .i64 0)).setCell ⟨w.heap.size + 1, 4, none⟩ (.slice none 0 0)) := by have := hB2; (repeat' (first | (with_reducible exact Below.refl _ _) | (with_reducible assumption) | (with_reducible refine Below.alloc ?_ ?_ _) | (with_reducible refine Below.drew ?_) | (with_reducible refine Below.setCell ?_ ?_ _) | go_size | (exact (by simp)) | omega))
    first
      | (refine bodyPost_ret (v := .tuple #[.agg #[.slice none 0 0, .int .i64 0, .int .i64 0, .int .i64 0, .slice none 0 0], .int .i64 ME]) (by simp [results, Tryz.f35, go_sem, y0, y1, y2, y3, y4]) rfl ?_; exact ⟨rfl, hBY⟩)
      | (refine bodyPost_ret (v := .tuple #[.agg #[.slice none 0 0, .int .i64 0, .int .i64 0, .int .i64 0, .slice none 0 0], .int .i64 ME]) (by simp [results, Tryz.f35, go_sem, x0, x1, x2, x3, x4]) rfl ?_; exact ⟨rfl, hB2⟩)
set_option maxRecDepth 100000 in
set_option maxHeartbeats 8000000 in
theorem SweepW_any (t : Wl.Trk) (ws : List Wl.Pt) (es : List Int) (A Aw Ae : Option Addr) (c cw ce : Nat) (hl : t.ps.length ≤ 1000000000) (hle : es.length ≤ 1000000000) (hlw : ws.length ≤ 1000000000) (w : World) (hP : Prs w w.heap.size A t.ps) (hQ : Prs w w.heap.size Aw ws) (hE : Ints w w.heap.size (.slice Ae es.length ce) es) :
    Calls Tryz.prog 12 #[.agg (trV t A c), .slice Aw ws.length cw, .slice Ae es.length ce] w (TwoPost (if Wl.movE t ws es = 0 then Wl.sweepV t ws es else 0) (Wl.movE t ws es) w) := by
  have HC : Hid (∀ W, Below w.heap.size w W → Calls Tryz.prog 35 #[.agg (trV t A c), .slice Aw ws.length cw, .slice Ae es.length ce] W (McPost t A c Aw ws.length cw (Wl.movE t ws es) W)) := fun W hW => movedW_any t ws es A Aw Ae c cw ce hl hle hlw W (prs_keep hP hW) (prs_keep hQ hW) ((hE.keep hW).more hW.size)
  have HS : Hid (Wl.movE t ws es = 0 → ∀ W, Below w.heap.size w W → Calls Tryz.prog 29 #[.agg (mcV t A c Aw ws.length cw), .slice Ae es.length ce] W fun e w' => e = .returned (.int .i64 (Wl.sweepV t ws es)) ∧ Below W.heap.size W w') := fun h W hW => by
    obtain ⟨⟨h1, h2⟩, h3⟩ := Wl.movE_yes h
    obtain ⟨e1, e2, _⟩ := Wl.elbV_iff.1 h3
    exact sweepW_any t ws es A Aw Ae c cw ce (Wl.trk_sm h1) (fun k hk => Wl.pts_sm h2 hk) (fun k hk => (Wl.mem_reachL.1 (Wl.fitB_mem.1 (e2 k hk))).1) hl e1 (Wl.pts_all h2).2 W (prs_keep hP hW) (prs_keep hQ hW) ((hE.keep hW).more hW.size)
  clear hP hQ hE hl hle hlw
  unfold McPost mcE at HC
  generalize Wl.movE t ws es = ME at *
  generalize Wl.sweepV t ws es = SV at *
  obtain ⟨ps, cl, lo, hi⟩ := t
  unfold trV mcV at *
  dsimp only at *
  by_cases h0 : ME = 0
  · subst h0
    have HS1 := Lib.hid (HS.out rfl)
    rw [if_pos rfl] at HC
    rw [if_pos rfl]
    clear HS
    go_enter Tryz.func12, Tryz.ntmps12
    go_wp2_with fail
    have hB1 : Below w.heap.size w (w.alloc (.cells #[.slice A ps.length c, .int .i64 cl, .int .i64 lo, .int .i64 hi] 26)) := by (repeat' (first | (with_reducible exact Below.refl _ _) | (with_reducible assumption) | (with_reducible refine Below.alloc ?_ ?_ _) | (with_reducible refine Below.drew ?_) | (with_reducible refine Below.setCell ?_ ?_ _) | go_size | (exact (by simp)) | omega))
    generalize World.alloc w _ = w1 at *
    refine (HC.out _ hB1).mono ?_
    rintro e w2 ⟨rfl, hb2⟩
    have hB2 := hB1.trans (hb2.mono hB1.size)
    go_wp2_with fail
    have hB3 : Below w.heap.size w (w2.alloc (.cells #[.slice A ps.length c, .int .i64 cl, .int .i64 lo, .int .i64 hi, .slice Aw ws.length cw] 61)) := hB2.alloc hB2.size _
    generalize World.alloc w2 _ = w3 at *
    refine (HS1.out _ hB3).mono ?_
    rintro e w4 ⟨rfl, hb4⟩
    have hB4 := hB3.trans (hb4.mono hB3.size)
    go_wp2_with fail
    go_returns
    exact ⟨rfl, hB4⟩
  · rw [if_neg h0] at HC
    rw [if_neg h0]
    have hce : (ME == 0) = false := by simpa using h0
    have hcn : (ME != 0) = true := by simpa using h0
    clear HS
    go_enter Tryz.func12, Tryz.ntmps12
    go_wp2_with fail
    have hB1 : Below w.heap.size w (w.alloc (.cells #[.slice A ps.length c, .int .i64 cl, .int .i64 lo, .int .i64 hi] 26)) := by (repeat' (first | (with_reducible exact Below.refl _ _) | (with_reducible assumption) | (with_reducible refine Below.alloc ?_ ?_ _) | (with_reducible refine Below.drew ?_) | (with_reducible refine Below.setCell ?_ ?_ _) | go_size | (exact (by simp)) | omega))
    generalize World.alloc w _ = w1 at *
    refine (HC.out _ hB1).mono ?_
    rintro e w2 ⟨rfl, hb2⟩
    have hB2 := hB1.trans (hb2.mono hB1.size)
    go_wp2_with fail
    have hB3 : Below w.heap.size w (w2.alloc (.cells #[.slice none 0 0, .int .i64 0, .int .i64 0, .int .i64 0, .slice none 0 0] 61)) := hB2.alloc hB2.size _
    generalize World.alloc w2 _ = w3 at *
    try go_wp2_with fail
    go_returns
    exact ⟨rfl, hB3⟩
set_option maxRecDepth 100000 in
set_option maxHeartbeats 8000000 in
theorem TurnsW_any (t : Wl.Trk) (ws : List Wl.Pt) (es : List Int) (A Aw Ae : Option Addr) (c cw ce : Nat) (hl : t.ps.length ≤ 1000000000) (hle : es.length ≤ 1000000000) (hlw : ws.length ≤ 1000000000) (w : World) (hP : Prs w w.heap.size A t.ps) (hQ : Prs w w.heap.size Aw ws) (hE : Ints w w.heap.size (.slice Ae es.length ce) es) :
    Calls Tryz.prog 13 #[.agg (trV t A c), .slice Aw ws.length cw, .slice Ae es.length ce] w (TwoPost (if Wl.movE t ws es = 0 then Wl.turnsV t es else 0) (Wl.movE t ws es) w) := by
  have HC : Hid (∀ W, Below w.heap.size w W → Calls Tryz.prog 35 #[.agg (trV t A c), .slice Aw ws.length cw, .slice Ae es.length ce] W (McPost t A c Aw ws.length cw (Wl.movE t ws es) W)) := fun W hW => movedW_any t ws es A Aw Ae c cw ce hl hle hlw W (prs_keep hP hW) (prs_keep hQ hW) ((hE.keep hW).more hW.size)
  have HS : Hid (Wl.movE t ws es = 0 → ∀ W, Below w.heap.size w W → Calls Tryz.prog 36 #[.agg (mcV t A c Aw ws.length cw), .slice Ae es.length ce] W fun e w' => e = .returned (.int .i64 (Wl.turnsV t es)) ∧ Below W.heap.size W w') := fun h W hW => by
    obtain ⟨⟨h1, h2⟩, h3⟩ := Wl.movE_yes h
    obtain ⟨e1, e2, _⟩ := Wl.elbV_iff.1 h3
    have hn := (Wl.trk_parts h1).2.2
    have h8 := (Wl.pts_all h2).2
    exact turnsW_any t A Aw Ae c ws.length cw ce es (fun e he => by
      obtain ⟨k, hk, rfl⟩ := List.getElem_of_mem he
      have := (Wl.mem_reachL.1 (Wl.fitB_mem.1 (e2 k hk))).1
      unfold Wl.esAt at this
      rw [List.getElem?_eq_getElem hk] at this
      simp only [Option.getD_some] at this
      unfold smI
      omega) (by omega) hl (by omega) W ((hE.keep hW).more hW.size)
  clear hP hQ hE hl hle hlw
  unfold McPost mcE at HC
  generalize Wl.movE t ws es = ME at *
  generalize Wl.turnsV t es = SV at *
  obtain ⟨ps, cl, lo, hi⟩ := t
  unfold trV mcV at *
  dsimp only at *
  by_cases h0 : ME = 0
  · subst h0
    have HS1 := Lib.hid (HS.out rfl)
    rw [if_pos rfl] at HC
    rw [if_pos rfl]
    clear HS
    go_enter Tryz.func13, Tryz.ntmps13
    go_wp2_with fail
    have hB1 : Below w.heap.size w (w.alloc (.cells #[.slice A ps.length c, .int .i64 cl, .int .i64 lo, .int .i64 hi] 26)) := by (repeat' (first | (with_reducible exact Below.refl _ _) | (with_reducible assumption) | (with_reducible refine Below.alloc ?_ ?_ _) | (with_reducible refine Below.drew ?_) | (with_reducible refine Below.setCell ?_ ?_ _) | go_size | (exact (by simp)) | omega))
    generalize World.alloc w _ = w1 at *
    refine (HC.out _ hB1).mono ?_
    rintro e w2 ⟨rfl, hb2⟩
    have hB2 := hB1.trans (hb2.mono hB1.size)
    go_wp2_with fail
    have hB3 : Below w.heap.size w (w2.alloc (.cells #[.slice A ps.length c, .int .i64 cl, .int .i64 lo, .int .i64 hi, .slice Aw ws.length cw] 61)) := hB2.alloc hB2.size _
    generalize World.alloc w2 _ = w3 at *
    refine (HS1.out _ hB3).mono ?_
    rintro e w4 ⟨rfl, hb4⟩
    have hB4 := hB3.trans (hb4.mono hB3.size)
    go_wp2_with fail
    go_returns
    exact ⟨rfl, hB4⟩
  · rw [if_neg h0] at HC
    rw [if_neg h0]
    have hce : (ME == 0) = false := by simpa using h0
    have hcn : (ME != 0) = true := by simpa using h0
    clear HS
    go_enter Tryz.func13, Tryz.ntmps13
    go_wp2_with fail
    have hB1 : Below w.heap.size w (w.alloc (.cells #[.slice A ps.length c, .int .i64 cl, .int .i64 lo, .int .i64 hi] 26)) := by (repeat' (first | (with_reducible exact Below.refl _ _) | (with_reducible assumption) | (with_reducible refine Below.alloc ?_ ?_ _) | (with_reducible refine Below.drew ?_) | (with_reducible refine Below.setCell ?_ ?_ _) | go_size | (exact (by simp)) | omega))
    generalize World.alloc w _ = w1 at *
    refine (HC.out _ hB1).mono ?_
    rintro e w2 ⟨rfl, hb2⟩
    have hB2 := hB1.trans (hb2.mono hB1.size)
    go_wp2_with fail
    have hB3 : Below w.heap.size w (w2.alloc (.cells #[.slice none 0 0, .int .i64 0, .int .i64 0, .int .i64 0, .slice none 0 0] 61)) := hB2.alloc hB2.size _
    generalize World.alloc w2 _ = w3 at *
    try go_wp2_with fail
    go_returns
    exact ⟨rfl, hB3⟩
end Go.Proofs.YtmjcdggmofohcaaGreat
