/- Walks: whether the machine carries elbows, by the program. -/
import Derived.Test.YtmjcdggmofohcaaWlT
import Derived.Test.YtmjcdggmofohcaaWlR
import Derived.Test.YtmjcdggmofohcaaWlF
import Derived.Test.YtmjcdggmofohcaaCalm
namespace Go.Proofs.Ytmjcdggmofohcaa
open Go.RowKit Go.Shelf
attribute [local go_sem] Oper.semAt_some
theorem near_legs {t : Wl.Trk} {es : List Int} (hes : ∀ e ∈ es, smI e) : ∀ k, k ≤ es.length → (Wl.tieTo t es k = true ↔ ∀ x ∈ legsTo es hes k, Wl.nearB t x.1.1 x.1.2 = true)
  | 0, _ => by simp [legsTo, Wl.tieTo]
  | k + 1, h => by
    show (Wl.tieTo t es k && Wl.nearB t (Wl.esAt es k) (Wl.esAt es ((k + 1) % es.length))) = true ↔ _
    rw [Bool.and_eq_true, near_legs hes k (by omega), legsTo_succ]
    constructor
    · rintro ⟨h1, h2⟩ x hx
      rcases List.mem_append.1 hx with hx | hx
      · exact h1 x hx
      · rw [List.mem_singleton] at hx
        subst hx
        exact h2
    · intro h1
      exact ⟨fun x hx => h1 x (List.mem_append.2 (.inl hx)), h1 _ (List.mem_append.2 (.inr (List.mem_singleton.2 rfl)))⟩
theorem legs_sub {es : List Int} (hes : ∀ e ∈ es, smI e) {k n : Nat} (hk : k ≤ n) {x : Leg} (hx : x ∈ legsTo es hes k) : x ∈ legsTo es hes n := by
  unfold legsTo at *
  rw [List.mem_map] at *
  obtain ⟨i, hi, e⟩ := hx
  rw [List.mem_range] at hi
  exact ⟨i, List.mem_range.2 (by omega), e⟩
namespace Wl
theorem tieTo_all (t : Trk) (es : List Int) (hes : ∀ e ∈ es, smI e) (h : ∀ x ∈ legsTo es hes es.length, nearB t x.1.1 x.1.2 = true) : tieTo t es es.length = true := (near_legs hes _ (Nat.le_refl _)).2 h
theorem tieTo_none (t : Trk) (es : List Int) (hes : ∀ e ∈ es, smI e) {k : Nat} (hk : k ≤ es.length) (h : ∃ x ∈ legsTo es hes k, nearB t x.1.1 x.1.2 = false) : tieTo t es es.length = false := by
  obtain ⟨x, hx, hn⟩ := h
  cases e : tieTo t es es.length with
  | false => rfl
  | true =>
    have := (near_legs hes _ (Nat.le_refl _)).1 e x (legs_sub hes hk hx)
    rw [hn] at this
    cases this
end Wl
set_option maxRecDepth 100000 in
set_option maxHeartbeats 8000000 in
theorem carryW_yes (t : Wl.Trk) (ws : List Wl.Pt) (es : List Int) (A Aw Ae : Option Addr) (c cw ce : Nat) (ht : Wl.trkB t = true) (hw : Wl.ptsB ws = true) (hle : es.length ≤ 1000000000) (hlw : ws.length ≤ 1000000000) (w : World) (hP : Prs w w.heap.size A t.ps) (hQ : Prs w w.heap.size Aw ws) (hE : Ints w w.heap.size (.slice Ae es.length ce) es) (hlen : es.length = ws.length) (hfit : Wl.fitTo t ws es es.length = true) :
    Calls Try.prog 84 #[.agg (mcV t A c Aw ws.length cw), .slice Ae es.length ce] w fun e w' => e = .returned (.bool (Wl.tieTo t es es.length)) ∧ Below w.heap.size w w' := by
  obtain ⟨hp8, hc3, hn8⟩ := Wl.trk_parts ht
  have HREA : Hid (∀ (p : Nat) (a : Wl.Pt), p < t.ps.length → Geo.sm a → ∀ W, Below w.heap.size w W → Calls Try.prog 83 #[.agg (mcV t A c Aw ws.length cw), .int .i64 (p : Nat), .agg #[.int .i64 a.1, .int .i64 a.2]] W fun e w' => e = .returned (.bool (Wl.reachB t p a)) ∧ Below W.heap.size W w') := fun p a hpl hs W hW => reachesW_any t A c Aw ws.length cw p a hpl (Wl.trk_sm ht p hpl) hs W (prs_keep hP hW) (by omega)
  have HWA : Hid (∀ (x : Int) W, Calls Try.prog 80 #[.int .i64 x, .int .i64 0, .int .i64 ((t.ps.length : Int) - 1)] W fun e w' => e = .returned (.bool (inB x 0 ((t.ps.length : Int) - 1))) ∧ w' = W) := fun x W => withinW_any _ _ _ W
  have HSW : Hid (∀ k, k < ws.length → Geo.sm (Wl.ptAt ws k)) := fun k hk => Wl.pts_sm hw hk
  have HFS0 : Hid (∀ k, Wl.fitTo t ws es (k + 1) = (Wl.fitTo t ws es k && (inB (Wl.esAt es k) 0 ((t.ps.length : Int) - 1) && Wl.reachB t (Wl.esAt es k) (Wl.ptAt ws k)))) := fun _ => rfl
  have HF0 : Hid (Wl.fitTo t ws es 0 = true) := rfl
  have HFN : Hid (∀ k, k < es.length → (inB (Wl.esAt es k) 0 ((t.ps.length : Int) - 1) && Wl.reachB t (Wl.esAt es k) (Wl.ptAt ws k)) = false → Wl.fitTo t ws es es.length = false) := fun k hk h => Wl.fitTo_no h _ hk
  have HP := Lib.hid hP
  have HQ := Lib.hid hQ
  have HE := Lib.hid hE
  have hmo : Try.prog.follows .mixedOrders = true := by kernel_rfl
  have hw8 : ws.length ≤ 8 := (Wl.pts_all hw).2
  have hin0 := Wl.fitTo_in _ hfit
  have hes : ∀ e ∈ es, smI e := fun e he => by
    obtain ⟨k, hk, rfl⟩ := List.getElem_of_mem he
    have := hin0 k hk
    unfold Wl.esAt at this
    rw [List.getElem?_eq_getElem hk] at this
    unfold smI
    simp only [Option.getD_some] at this
    omega
  have HNE : Hid (∀ (x : Leg) W, Calls Try.prog 100 #[.agg (mcV t A c Aw ws.length cw), .int .i64 x.1.1, .int .i64 x.1.2] W fun e w' => e = .returned (.bool (Wl.nearB t x.1.1 x.1.2)) ∧ Below W.heap.size W w') := fun x W => nearW_any t A c Aw ws.length cw x.1.1 x.1.2 (by have := x.2.1; unfold smI at this; omega) (by have := x.2.2; unfold smI at this; omega) (by omega) W
  have HTY : Hid ((∀ x ∈ legsTo es hes es.length, Wl.nearB t x.1.1 x.1.2 = true) → Wl.tieTo t es es.length = true) := fun h => Wl.tieTo_all t es hes h
  have HTN : Hid (∀ k, k ≤ es.length → (∃ x ∈ legsTo es hes k, Wl.nearB t x.1.1 x.1.2 = false) → Wl.tieTo t es es.length = false) := fun k hk h => Wl.tieTo_none t es hes hk h
  clear hP hQ hE ht hw hc3 hp8 hin0
  obtain ⟨ps, cl, lo, hi⟩ := t
  unfold mcV at *
  dsimp only at *
  have HFA : Hid (∀ k, k < es.length → (inB (Wl.esAt es k) 0 ((ps.length : Int) - 1) && Wl.reachB ⟨ps, cl, lo, hi⟩ (Wl.esAt es k) (Wl.ptAt ws k)) = true) := fun k hk => (Wl.fitTo_iff _).1 hfit k hk
  have hfn := Lib.hid hfit
  clear hfit HFN
  generalize Wl.fitTo ⟨ps, cl, lo, hi⟩ ws es = FT at *
  generalize Wl.tieTo ⟨ps, cl, lo, hi⟩ es es.length = TT at *
  generalize hnr : Wl.nearB ⟨ps, cl, lo, hi⟩ = NR at *
  clear hnr
  have hli : (es.length : Int) = (ws.length : Int) := by omega
  have hnb : ((es.length : Int) != (ws.length : Int)) = false := by simpa using hli
  have HL := Lib.hid hlen
  have he8 : es.length ≤ 100 := by omega
  clear hlen hli
  obtain ⟨n, hn⟩ : ∃ n : Nat, 9 ≤ n := ⟨9, Nat.le_refl _⟩
  have h1 : 1 ≤ n := by omega
  refine (callsIn_wide (n := n)).1 ?_
  refine callsIn_of_wp_marks Try.func84 rfl trivial ?_ rfl
  simp only [Try.ntmps84, List.size_toArray, List.length_cons, List.length_nil, Nat.reduceAdd, Nat.reduceSub, Array.replicate_succ, Array.replicate_zero, List.push_toArray, List.append_toArray, List.nil_append, List.cons_append]
  gi_wp2
  have bS0 := (BoxS.new w 70 #[.slice A ps.length c, .int .i64 cl, .int .i64 lo, .int .i64 hi, .slice Aw ws.length cw]).alloc (.cells #[.bool false] 4)
  have bR0 := BoxS.new (w.alloc (.cells #[.slice A ps.length c, .int .i64 cl, .int .i64 lo, .int .i64 hi, .slice Aw ws.length cw] 70)) 4 #[.bool false]
  rw [World.size_alloc] at bR0
  have hB0 : Below w.heap.size w ((w.alloc (.cells #[.slice A ps.length c, .int .i64 cl, .int .i64 lo, .int .i64 hi, .slice Aw ws.length cw] 70)).alloc (.cells #[.bool false] 4)) := by (repeat' (first | (with_reducible exact Below.refl _ _) | (with_reducible assumption) | (with_reducible refine Below.alloc ?_ ?_ _) | (with_reducible refine Below.drew ?_) | (with_reducible refine Below.setCell ?_ ?_ _) | go_size | (exact (by simp)) | omega))
  generalize World.alloc (World.alloc w _) _ = w0 at *
  have c4 := bS0.cell 4 rfl
  have l0 := bS0.lt
  try gi_wp2
  clear c4 l0 hnb
  gi_loopw [17] (fun x17 wx => ∃ k : Nat, (k : Int) ≤ es.length ∧ x17 = .int .i64 (k : Int) ∧ Hid (FT k = true) ∧ Below w.heap.size w wx ∧ BoxS wx w.heap.size 70 #[.slice A ps.length c, .int .i64 cl, .int .i64 lo, .int .i64 hi, .slice Aw ws.length cw] ∧ BoxS wx (w.heap.size + 1) 4 #[.bool false]) (fun x _ => (es.length - intOf x).toNat)
  case atStart => exact ⟨0, by omega, rfl, HF0, hB0, bS0, bR0⟩
  case round =>
    clear hB0 bS0 bR0
    obtain ⟨k, hk1, rfl, hall, hB, bS, bR⟩ := hrel
    have hk0 := Int.natCast_nonneg k
    by_cases hlt : (k : Int) < es.length
    · clear HNE HTY HTN
      have hkn : k < es.length := by omega
      have hkw : k < ws.length := by have := HL.out; omega
      have HFS := Lib.hid (HFS0.out k)
      have HA1 := Lib.hid (HFA.out k hkn)
      have HW1 := Lib.hid (HWA.out (Wl.esAt es k))
      have hsa := HSW.out k hkw
      have hek : es[k]? = some (Wl.esAt es k) := by unfold Wl.esAt; rw [List.getElem?_eq_getElem hkn]; rfl
      have hwk : ws[k]? = some (Wl.ptAt ws k) := by unfold Wl.ptAt; rw [List.getElem?_eq_getElem hkw]; rfl
      obtain ⟨bw, ow, rfl, hbw, hcw⟩ := HQ.out (by omega)
      obtain ⟨y0, y1⟩ := hcw k _ hwk
      rcases HE.out with ⟨_, e⟩ | ⟨be, oe, cape, e, hbe, hce⟩
      · subst e; simp at hkn
      injection e with eA _ ec
      subst eA ec
      have z0 := (hB.cell (p := ⟨be, _, none⟩) hbe).trans (hce k _ hek)
      have hw1 : IntKind.i64.wrap ((k : Int) + 1) = (k : Int) + 1 := IntWalk.i64_in _ (by omega)
      have hw2 : IntKind.i64.wrap ((ps.length : Int) - 1) = (ps.length : Int) - 1 := IntWalk.i64_in _ (by omega)
      have d1 : decide ((k : Int) < 0) = false := decide_eq_false (by omega)
      have d3 : decide ((ws.length : Int) ≤ (k : Int)) = false := decide_eq_false (by omega)
      have d5 : decide (ws.length ≤ k) = false := decide_eq_false (by omega)
      have hbr : be < wr.heap.size := by have := hB.size; omega
      have q0 : Below wr.heap.size wr wr.drew := (Below.refl _ _).drew
      have KC : Hid (∀ W', Below wr.heap.size wr W' → (W'.cell? ⟨w.heap.size, 0, none⟩ = some (.slice A ps.length c) ∧ W'.cell? ⟨w.heap.size, 1, none⟩ = some (.int .i64 cl) ∧ W'.cell? ⟨w.heap.size, 2, none⟩ = some (.int .i64 lo) ∧ W'.cell? ⟨w.heap.size, 3, none⟩ = some (.int .i64 hi) ∧ W'.cell? ⟨w.heap.size, 4, none⟩ = some (.slice (some ⟨bw, ow, none⟩) ws.length cw)) ∧ W'.cell? ⟨bw, ow + k * 2, none⟩ = some (.int .i64 (Wl.ptAt ws k).1) ∧ W'.cell? ⟨bw, ow + k * 2 + 1, none⟩ = some (.int .i64 (Wl.ptAt ws k).2)) := fun W' h => by
        have h2 := hB.trans (h.mono hB.size)
        have b := bS.below h
        exact ⟨⟨b.cell 0 rfl, b.cell 1 rfl, b.cell 2 rfl, b.cell 3 rfl, b.cell 4 rfl⟩, (h2.cell (p := ⟨bw, _, none⟩) hbw).trans y0, (h2.cell (p := ⟨bw, _, none⟩) hbw).trans y1⟩
      clear hce hcw hek hwk y0 y1 HFA HFS0
      generalize Wl.esAt es k = ex at *
      generalize Wl.ptAt ws k = a at *
      obtain ⟨a1, a2⟩ := a
      dsimp only at KC
      cases hin : inB ex 0 ((ps.length : Int) - 1)
      · have := HA1.out
        rw [hin] at this
        cases this
      · rw [hin] at HW1
        have hie : 0 ≤ ex ∧ ex < ps.length := by
          unfold inB at hin
          simp only [Bool.and_eq_true, decide_eq_true_eq] at hin
          omega
        obtain ⟨p, hp⟩ : ∃ p : Nat, ex = p := ⟨ex.toNat, by omega⟩
        subst hp
        have HRE := Lib.hid (fun W (hW : Below wr.heap.size wr W) => HREA.out p (a1, a2) (by omega) hsa W (hB.trans (hW.mono hB.size)))
        cases hre : Wl.reachB ⟨ps, cl, lo, hi⟩ p (a1, a2)
        · have := HA1.out
          rw [hin, hre] at this
          cases this
        · rw [hre] at HRE
          have HF2 : Hid (FT (k + 1) = true) := by unfold Hid; rw [HFS.out, hall.out, hin, hre]; rfl
          clear hin hre HA1
          gi_wp2
          clear z0
          refine wpIn_calm ?_
          refine wpIn_region_held (fun W' => Below wr.heap.size wr W') 30 hmo ?_
          refine wpHeldIn_take (i := 0) (v := ?_) (plain_of (by kernel_rfl)) rfl (by kernel_rfl) (fun _ _ _ h => h) (yieldsSoIn_of (by kernel_rfl) ?_ (fun _ => rfl)) q0 ?_; rotate_left; focus (intro wq hw; clear hw; go_simp; try (with_reducible rfl))
          refine wpHeldIn_take (i := 1) (v := ?_) (plain_of (by kernel_rfl)) rfl (by kernel_rfl) (fun _ _ _ h => h) (yieldsSoIn_of (by kernel_rfl) ?_ (fun _ => rfl)) q0 ?_; rotate_left; focus (intro wq hw; clear hw; go_simp; try (with_reducible rfl))
          refine wpHeldIn_take (i := 2) (v := ?_) (plain_of (by kernel_rfl)) rfl (by kernel_rfl) (fun _ _ _ h => h) (yieldsSoIn_of (by kernel_rfl) ?_ (fun _ => rfl)) q0 ?_; rotate_left; focus (intro wq hw; clear hw; go_simp; try (with_reducible rfl))
          refine wpHeldIn_take (i := 3) (v := ?_) (plain_of (by kernel_rfl)) rfl (by kernel_rfl) (fun _ _ _ h => h) (yieldsSoIn_of (by kernel_rfl) ?_ (fun _ => rfl)) q0 ?_; rotate_left; focus (intro wq hw; have kq := KC.out wq hw; clear hw; go_simp; try (with_reducible rfl))
          refine wpHeldIn_take (i := 4) (v := ?_) (plain_of (by kernel_rfl)) rfl (by kernel_rfl) (fun _ _ _ h => h) (yieldsSoIn_of (by kernel_rfl) ?_ (fun _ => rfl)) q0 ?_; rotate_left; focus (intro wq hw; clear hw; go_simp; try (with_reducible rfl))
          refine wpHeldIn_take (i := 5) (v := ?_) (plain_of (by kernel_rfl)) rfl (by kernel_rfl) (fun _ _ _ h => h) (yieldsSoIn_of (by kernel_rfl) ?_ (fun _ => rfl)) q0 ?_; rotate_left; focus (intro wq hw; clear hw; go_simp; try (with_reducible rfl))
          refine wpHeldIn_one (i := 6) (by kernel_rfl) (by kernel_rfl) rfl (by kernel_rfl) (fun K1 hK1 => ?_)
          go_simp
          refine ⟨trivial, (callsIn_wide.2 (HW1.out _)).mono ?_⟩
          rintro e w2 ⟨rfl, hw2⟩
          have hw2 := hw2.symm
          subst hw2
          refine hK1 _ _ q0 ?_
          refine wpHeldIn_take (i := 7) (v := ?_) (plain_of (by kernel_rfl)) rfl (by kernel_rfl) (fun _ _ _ h => h) (yieldsSoIn_of (by kernel_rfl) ?_ (fun _ => rfl)) q0 ?_; rotate_left; focus (intro wq hw; clear hw; go_simp; try (with_reducible rfl))
          refine wpHeldIn_take (i := 8) (v := ?_) (plain_of (by kernel_rfl)) rfl (by kernel_rfl) (fun _ _ _ h => h) (yieldsSoIn_of (by kernel_rfl) ?_ (fun _ => rfl)) q0 ?_; rotate_left; focus (intro wq hw; clear hw; go_simp; try (with_reducible rfl))
          refine wpHeldIn_take (i := 9) (v := ?_) (plain_of (by kernel_rfl)) rfl (by kernel_rfl) (fun _ _ _ h => h) (yieldsSoIn_of (by kernel_rfl) ?_ (fun _ => rfl)) q0 ?_; rotate_left; focus (intro wq hw; have kq := KC.out wq hw; clear hw; go_simp; try (with_reducible rfl))
          refine wpHeldIn_take (i := 10) (v := ?_) (plain_of (by kernel_rfl)) rfl (by kernel_rfl) (fun _ _ _ h => h) (yieldsSoIn_of (by kernel_rfl) ?_ (fun _ => rfl)) q0 ?_; rotate_left; focus (intro wq hw; clear hw; go_simp; try (with_reducible rfl))
          refine wpHeldIn_take (i := 11) (v := ?_) (plain_of (by kernel_rfl)) rfl (by kernel_rfl) (fun _ _ _ h => h) (yieldsSoIn_of (by kernel_rfl) ?_ (fun _ => rfl)) q0 ?_; rotate_left; focus (intro wq hw; clear hw; go_simp; try (with_reducible rfl))
          refine wpHeldIn_take (i := 12) (v := ?_) (plain_of (by kernel_rfl)) rfl (by kernel_rfl) (fun _ _ _ h => h) (yieldsSoIn_of (by kernel_rfl) ?_ (fun _ => rfl)) q0 ?_; rotate_left; focus (intro wq hw; have kq := KC.out wq hw; clear hw; go_simp; try (with_reducible rfl))
          refine wpHeldIn_take (i := 13) (v := ?_) (plain_of (by kernel_rfl)) rfl (by kernel_rfl) (fun _ _ _ h => h) (yieldsSoIn_of (by kernel_rfl) ?_ (fun _ => rfl)) q0 ?_; rotate_left; focus (intro wq hw; clear hw; go_simp; try (with_reducible rfl))
          refine wpHeldIn_take (i := 14) (v := ?_) (plain_of (by kernel_rfl)) rfl (by kernel_rfl) (fun _ _ _ h => h) (yieldsSoIn_of (by kernel_rfl) ?_ (fun _ => rfl)) q0 ?_; rotate_left; focus (intro wq hw; clear hw; go_simp; try (with_reducible rfl))
          refine wpHeldIn_take (i := 15) (v := ?_) (plain_of (by kernel_rfl)) rfl (by kernel_rfl) (fun _ _ _ h => h) (yieldsSoIn_of (by kernel_rfl) ?_ (fun _ => rfl)) q0 ?_; rotate_left; focus (intro wq hw; have kq := KC.out wq hw; clear hw; go_simp; try (with_reducible rfl))
          refine wpHeldIn_one (i := 16) (by kernel_rfl) (by kernel_rfl) rfl (by kernel_rfl) (fun K2 hK2 => ?_)
          go_simp
          refine ⟨trivial, (callsIn_wide.2 (HRE.out _ q0)).mono ?_⟩
          rintro e w5 ⟨rfl, hb5⟩
          have q1 := q0.trans (hb5.mono q0.size)
          refine hK2 _ _ q1 ?_
          refine wpHeldIn_take (i := 17) (v := ?_) (plain_of (by kernel_rfl)) rfl (by kernel_rfl) (fun _ _ _ h => h) (yieldsSoIn_of (by kernel_rfl) ?_ (fun _ => rfl)) q1 ?_; rotate_left; focus (intro wq hw; clear hw; go_simp; try (with_reducible rfl))
          refine wpHeldIn_take (i := 18) (v := ?_) (plain_of (by kernel_rfl)) rfl (by kernel_rfl) (fun _ _ _ h => h) (yieldsSoIn_of (by kernel_rfl) ?_ (fun _ => rfl)) q1 ?_; rotate_left; focus (intro wq hw; clear hw; go_simp; try (with_reducible rfl))
          refine wpHeldIn_done (by kernel_rfl) (calm_normal ?_) _
          go_simp
          have bS5 := bS.below q1
          have bR5 := bR.below q1
          have hB5 := hB.trans (q1.mono hB.size)
          clear KC
          gi_wp2
          go_roundw
          case rel => exact ⟨k + 1, by omega, by go_num, HF2, hB5, bS5, bR5⟩
          case measure => simp [intOf]; omega
    · have ek : k = es.length := by omega
      clear hall HREA HWA HSW HFS0 HF0 hfn HFA ek hk1 hk0
      gi_wp2_with (refine ⟨trivial, ?_⟩; gi_at_call 85; refine (aroundI0_in Fence.wide (n - 1) trivial rfl _ _ _ _).mono ?_; rintro e w' ⟨rfl, rfl⟩)
      have bA := Boxed.new wr 35 (.slice Ae es.length ce)
      have bS1 := bS.alloc (.cells #[.slice Ae es.length ce] 35)
      have bR1 := bR.alloc (.cells #[.slice Ae es.length ce] 35)
      have hB1 : Below w.heap.size w (wr.alloc (.cells #[.slice Ae es.length ce] 35)) := hB.alloc hB.size _
      have hsz : (wr.alloc (.cells #[.slice Ae es.length ce] 35)).heap.size = wr.heap.size + 1 := by simp
      have hzw := hB.size
      have lR := bR.lt
      have hE1 := HE.out.keep hB1
      obtain ⟨W0, hW0⟩ : ∃ W0, (wr.alloc (.cells #[.slice Ae es.length ce] 35)) = W0 := ⟨_, rfl⟩
      rw [hW0] at bA bS1 bR1 hB1 hsz hE1 ⊢
      clear hW0
      refine wpIn_rangeFunc_ownH rfl h1 (gf := 101) (lb := #[.pointer (some ⟨wr.heap.size, 0, none⟩)]) rfl trivial (enters_of Try.func101 (by kernel_rfl) rfl)
        (aroundI_stops Fence.wide (n - 1) trivial rfl (by omega) wr.heap.size w.heap.size Ae ce es hes he8 W0 bA (by omega) hE1) KpS.trans (fun W l o o' hl _ _ _ => KpS.putObj W (by omega) (by omega) o') (Below.refl _ _) (fun _ => rfl)
        (fun pre W => (((∀ x ∈ pre, NR x.1.1 x.1.2 = true) ∧ Boxed W (w.heap.size + 1) 4 (.bool false)) ∧ BoxS W w.heap.size 70 #[.slice A ps.length c, .int .i64 cl, .int .i64 lo, .int .i64 hi, .slice Aw ws.length cw]) ∧ Below w.heap.size w W)
        (fun cc pre W => ((cc = .ret ∧ ∃ x ∈ pre, NR x.1.1 x.1.2 = false) ∧ Boxed W (w.heap.size + 1) 4 (.bool false)) ∧ Below w.heap.size w W)
        (OwnFrom.and (OwnFrom.and (OwnFrom.and (ownFrom_pure _ _) (Own.from (boxed_own _ _ (fun _ => _)) _)) (Own.from (boxS_own _ _ (fun _ => _)) _)) (ownFrom_below (Nat.le_refl _) (by omega)))
        (fun cc => OwnFrom.and (OwnFrom.and (ownFrom_pure _ _) (Own.from (boxed_own _ _ (fun _ => _)) _)) (ownFrom_below (Nat.le_refl _) (by omega)))
        ⟨⟨⟨by simp, bR1⟩, bS1⟩, hB1⟩
        (fun x a' _ => a' = { tmps := #[.agg #[.slice A ps.length c, .int .i64 cl, .int .i64 lo, .int .i64 hi, .slice Aw ws.length cw], .slice Ae es.length ce, .pointer (some ⟨w.heap.size, 0, none⟩), undef, .pointer (some ⟨w.heap.size + 1, 0, none⟩), u5, u6, .int .i64 x.1.1, .int .i64 x.1.2, .slice Ae es.length ce, .int .i64 es.length, .pointer (some ⟨w.heap.size, 4, none⟩), .slice Aw ws.length cw, .int .i64 ws.length, .bool false, .slice Ae es.length ce, .int .i64 es.length, .int .i64 k, .bool false, u19, u20, u21, u22, u23, u24, u25, u26, u27, u28, u29, u30, u31, u32, u33, u34, u35, u36, u37, u38, u39, u40, u41, .slice Ae es.length ce, .func (.func 101) #[] #[.pointer (some ⟨wr.heap.size, 0, none⟩)], .int .i64 x.1.1, .int .i64 x.1.2, undef, undef, undef, undef, undef], defers := [] })
        (fun x a' _ X Y row hs hg hr => hs)
        ?assign ?body ?done ?stop
      case assign =>
        rintro l pre x W K ⟨⟨⟨hp, bR2⟩, bS2⟩, hB2⟩ hK
        have HQ := Lib.hid hp
        clear hp
        gi_wp2
        exact hK _ _ ((KeepsOthers.refl _).from _) (KpS.refl _ _ _) ⟨⟨⟨HQ.out, bR2⟩, bS2⟩, hB2⟩ rfl
      case body =>
        rintro l pre x a' W hl ⟨r, hr⟩ ⟨⟨⟨hp, bR2⟩, bS2⟩, hB2⟩ rfl hlt
        have HQ := Lib.hid hp
        clear hp
        have HN := Lib.hid (HNE.out x)
        have h1' : 1 ≤ n - 1 - 1 := by omega
        have s0 := bS2.cell 0 rfl
        have s1 := bS2.cell 1 rfl
        have s2 := bS2.cell 2 rfl
        have s3 := bS2.cell 3 rfl
        have s4 := bS2.cell 4 rfl
        have lS := bS2.lt
        have hsW := hB2.size
        cases hb : NR x.1.1 x.1.2 with
        | false =>
          rw [hb] at HN
          have hb := Lib.hid hb
          gi_wp2
          refine ⟨trivial, (CallsIn.inRound l (callsIn_wide.2 (HN.out _))).mono ?_⟩
          rintro e w2 ⟨rfl, hb2⟩
          clear s0 s1 s2 s3 s4 lS
          have bR3 := boxed_below bR2 hb2
          have cR := bR3.cell
          have fR := bR3.frozen
          gi_wp2
          exact ⟨(keepsFrom_below _ hb2).trans ((KeepsOthers.setCell _ _ _).from _), ⟨⟨rfl, x, List.mem_append.2 (.inr (by simp)), hb.out⟩, bR3.set _⟩, (hB2.trans (hb2.mono hsW)).setCell (p := ⟨w.heap.size + 1, 0, none⟩) (by simp) _⟩
        | true =>
          rw [hb] at HN
          have hb := Lib.hid hb
          gi_wp2
          refine ⟨trivial, (CallsIn.inRound l (callsIn_wide.2 (HN.out _))).mono ?_⟩
          rintro e w2 ⟨rfl, hb2⟩
          clear s0 s1 s2 s3 s4 lS
          have bR3 := boxed_below bR2 hb2
          have bS3 := bS2.below hb2
          gi_wp2
          exact ⟨keepsFrom_below _ hb2, KpS.of_below hb2 hsW, ⟨⟨fun z hz => (List.mem_append.1 hz).elim (HQ.out z) (fun e => by rw [List.mem_singleton] at e; subst e; exact hb.out), bR3⟩, bS3⟩, hB2.trans (hb2.mono hsW)⟩
      case done =>
        rintro D zs W hD rfl ⟨⟨⟨hp, bR2⟩, bS2⟩, hB2⟩ hK
        have HQ := Lib.hid (HTY.out hp)
        clear hp
        have cR := bR2.cell
        have fR := bR2.frozen
        gi_wp2
        have hK' := (KeepsOthers.setCell W ⟨w.heap.size + 1, 0, none⟩ (.bool true)).same D _ hK rfl
        refine ⟨by simp, .inl ⟨_, _, rfl, run_takeDeferred hK', ?_⟩⟩
        have hc5 := cell_kept (bR2.set (.bool true)).cell (grownBy_putObj' _ D (.deferred none)) (fun r e => by cases e; exact ⟨_, hK', rfl⟩)
        refine ⟨.bool true, ?_, by rw [HQ.out], (hB2.setCell (p := ⟨w.heap.size + 1, 0, none⟩) (by simp) _).trans (belowK_b (w := w) (Nat.le_refl _) _ D _ _ (by omega) hK' rfl rfl)⟩
        simp [results, Try.f84, go_sem, hc5]
      case stop =>
        rintro D cc pre W hD ⟨kk, hkk, rfl⟩ ⟨⟨⟨rfl, x, hx, hn⟩, bR2⟩, hB2⟩ hK
        have HQ := Lib.hid (HTN.out kk hkk ⟨x, hx, hn⟩)
        gi_wp2
        refine ⟨by simp, .inl ⟨_, _, rfl, run_takeDeferred hK, ?_⟩⟩
        have hc5 := cell_kept bR2.cell (grownBy_putObj' _ D (.deferred none)) (fun r e => by cases e; exact ⟨_, hK, rfl⟩)
        refine ⟨.bool false, ?_, by rw [HQ.out], hB2.trans (belowK_b (w := w) (Nat.le_refl _) W D _ _ (by omega) hK rfl rfl)⟩
        simp [results, Try.f84, go_sem, hc5]
theorem carryW_any (t : Wl.Trk) (ws : List Wl.Pt) (es : List Int) (A Aw Ae : Option Addr) (c cw ce : Nat) (ht : Wl.trkB t = true) (hw : Wl.ptsB ws = true) (hle : es.length ≤ 1000000000) (hlw : ws.length ≤ 1000000000) (w : World) (hP : Prs w w.heap.size A t.ps) (hQ : Prs w w.heap.size Aw ws) (hE : Ints w w.heap.size (.slice Ae es.length ce) es) :
    Calls Try.prog 84 #[.agg (mcV t A c Aw ws.length cw), .slice Ae es.length ce] w fun e w' => e = .returned (.bool (Wl.elbV t ws es)) ∧ Below w.heap.size w w' := by
  by_cases h : es.length = ws.length ∧ Wl.fitTo t ws es es.length = true
  · have := carryW_yes t ws es A Aw Ae c cw ce ht hw hle hlw w hP hQ hE h.1 h.2
    unfold Wl.elbV
    rw [h.2, Bool.true_and, decide_eq_true h.1, Bool.true_and]
    exact this
  · have := carryW_no t ws es A Aw Ae c cw ce ht hw hle hlw w hP hQ hE (by
      by_cases h1 : es.length = ws.length
      · right
        cases h2 : Wl.fitTo t ws es es.length with
        | false => rfl
        | true => exact absurd ⟨h1, h2⟩ h
      · exact .inl h1)
    have e : Wl.elbV t ws es = false := by
      unfold Wl.elbV
      by_cases h1 : es.length = ws.length
      · cases h2 : Wl.fitTo t ws es es.length with
        | false => simp
        | true => exact absurd ⟨h1, h2⟩ h
      · simp [h1]
    rw [e]
    exact this
namespace Wl
/-- The error of elbows that are asked for. -/
def movE (t : Trk) (ws : List Pt) (es : List Int) : Int := if chkV t ws = 0 then (if elbV t ws es then 0 else 1) else chkV t ws
theorem chk_yes {t : Trk} {ws : List Pt} : chkV t ws = 0 ↔ trkB t = true ∧ ptsB ws = true := by
  unfold chkV
  cases trkB t <;> cases ptsB ws <;> simp
theorem movE_yes {t : Trk} {ws : List Pt} {es : List Int} (h : movE t ws es = 0) : (trkB t = true ∧ ptsB ws = true) ∧ elbV t ws es = true := by
  unfold movE at h
  split at h
  · rename_i hc
    refine ⟨chk_yes.1 hc, ?_⟩
    cases he : elbV t ws es with
    | true => rfl
    | false => rw [he] at h; cases h
  · rename_i hc; exact absurd h hc
end Wl
/-- The machine, or none where there is an error. -/
def mcE (x : Int) (t : Wl.Trk) (A : Option Addr) (c : Nat) (Aw : Option Addr) (m cw : Nat) : Array Value := if x = 0 then mcV t A c Aw m cw else #[.slice none 0 0, .int .i64 0, .int .i64 0, .int .i64 0, .slice none 0 0]
def McPost (t : Wl.Trk) (A : Option Addr) (c : Nat) (Aw : Option Addr) (m cw : Nat) (x : Int) (w : World) (e : Ending) (w' : World) : Prop := e = .returned (.tuple #[.agg (mcE x t A c Aw m cw), .int .i64 x]) ∧ Below w.heap.size w w'
theorem below_put {W W' : World} {B : Nat} {p : Addr} {v : Value} (h : Below B W W') (hp : B ≤ p.block) : Below B W (W'.setCell p v) := h.setCell hp v
end Go.Proofs.Ytmjcdggmofohcaa
