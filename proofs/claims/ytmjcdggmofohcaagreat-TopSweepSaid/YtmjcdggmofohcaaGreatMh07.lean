/- Texts of this proof, one behind the other: RefChk, Valid. Each says its own conditions. -/
import Derived.Test.YtmjcdggmofohcaaGreatMh02
import Derived.Test.YtmjcdggmofohcaaGreatMh03
import Derived.Test.YtmjcdggmofohcaaGreatMh04
import Derived.Test.YtmjcdggmofohcaaGreatMh05
import Derived.Test.YtmjcdggmofohcaaGreatMh06
import Derived.Deep.DeepCutAuto
namespace Go.Proofs.YtmjcdggmofohcaaGreat
open Go.RowKit

namespace Geo
abbrev ptAt (ps : List (Int × Int)) (k : Nat) : Int × Int := ps[k]?.getD (0, 0)
/-- The corner at which two sides meet is all that they share. -/
def nearB (ps : List (Int × Int)) (i : Nat) : Bool := onB (ptAt ps i) (ptAt ps ((i + 1) % ps.length)) (ptAt ps (((i + 1) % ps.length + 1) % ps.length)) || onB (ptAt ps ((i + 1) % ps.length)) (ptAt ps (((i + 1) % ps.length + 1) % ps.length)) (ptAt ps i)
/-- Two sides are the same, or next to each other. -/
def nextB (ps : List (Int × Int)) (i k : Nat) : Bool := decide (k = i) || (decide (k = (i + 1) % ps.length) || decide ((k + 1) % ps.length = i))
def farB (ps : List (Int × Int)) (i k : Nat) : Bool := !nextB ps i k && meetB (ptAt ps i) (ptAt ps ((i + 1) % ps.length)) (ptAt ps k) (ptAt ps ((k + 1) % ps.length))
def farP (ps : List (Int × Int)) (i m : Nat) : Prop := ∀ k, k < m → farB ps i k = false
def fineP (ps : List (Int × Int)) (m : Nat) : Prop := ∀ i, i < m → nearB ps i = false ∧ farP ps i ps.length
/-- A polygon is valid, as the reference has it. -/
def refP (ps : List (Int × Int)) : Prop := (3 ≤ ps.length ∧ ps.length ≤ 10) ∧ difP ps ∧ fineP ps ps.length
open Classical in
noncomputable def refV (ps : List (Int × Int)) : Int := if refP ps then 0 else 20
theorem fineP_succ {ps : List (Int × Int)} {i : Nat} (h : fineP ps i) (hn : nearB ps i = false) (hf : farP ps i ps.length) : fineP ps (i + 1) := by
  intro k hk
  rcases Nat.lt_succ_iff_lt_or_eq.1 hk with h1 | rfl
  · exact h k h1
  · exact ⟨hn, hf⟩
theorem farP_succ {ps : List (Int × Int)} {i k : Nat} (h : farP ps i k) (hf : farB ps i k = false) : farP ps i (k + 1) := by
  intro m hm
  rcases Nat.lt_succ_iff_lt_or_eq.1 hm with h1 | rfl
  · exact h m h1
  · exact hf
theorem refV_no {ps : List (Int × Int)} (h : ¬ refP ps) : refV ps = 20 := by unfold refV; rw [if_neg h]
theorem refV_yes {ps : List (Int × Int)} (h : refP ps) : refV ps = 0 := by unfold refV; rw [if_pos h]
theorem not_take_succ {ps : List (Int × Int)} {k : Nat} {p q : Int × Int} (hk : ps[k]? = some p) (h : q ∉ ps.take k) (hne : q ≠ p) : q ∉ ps.take (k + 1) := by
  rw [List.take_add_one, hk]
  simp only [Option.toList_some, List.mem_append, List.mem_singleton]
  rintro (h1 | h1)
  · exact h h1
  · exact hne h1
theorem not_twice {ps : List (Int × Int)} (hn : ps.Nodup) {i k : Nat} {p : Int × Int} (hi : ps[i]? = some p) (hk : ps[k]? = some p) (hlt : k < i) : False := by
  have h1 := (List.getElem?_eq_some_iff.1 hi)
  have h2 := (List.getElem?_eq_some_iff.1 hk)
  obtain ⟨a1, a2⟩ := h1
  obtain ⟨b1, b2⟩ := h2
  have := (List.getElem_inj hn (h₀ := a1) (h₁ := b1)).1 (a2.trans b2.symm)
  omega
theorem ptAt_eq {ps : List (Int × Int)} {k : Nat} {p : Int × Int} (h : ps[k]? = some p) : ptAt ps k = p := by unfold ptAt; rw [h]; rfl
end Geo
/-- What the reference's Check leaves. -/
def RefPost (v : Int) (w : World) (e : Ending) (w' : World) : Prop := e = .returned (.int .i64 v) ∧ Below w.heap.size w w'

set_option maxRecDepth 100000 in
set_option maxHeartbeats 4000000 in
theorem refchk_any (A : Option Addr) (c : Nat) (ps : List (Int × Int)) (hl : ps.length ≤ 100) (w : World) (hP : Prs w w.heap.size A ps) :
    Calls Tryz.prog 7 #[.slice A ps.length c] w (RefPost (Geo.refV ps) w) := by
  have HG := Lib.hid hP
  clear hP
  by_cases hlen : 3 ≤ ps.length ∧ ps.length ≤ 10
  rotate_left
  · have hno := Lib.hid (Geo.refV_no (ps := ps) (fun h => hlen h.1))
    have hin := Lib.hid (inB_false (n := (ps.length : Int)) (l := 3) (h := 10) |>.2 (by omega))
    clear hlen
    go_enter Tryz.func7, Tryz.ntmps7
    go_wp2_with fail
    refine (Within_any _ _ _ _).mono ?_
    rintro e w1 ⟨rfl, rfl⟩
    rw [hin.out]
    go_wp2_with fail
    go_returns
    exact ⟨ret_i hno.out.symm, Below.refl _ _⟩
  have hin := Lib.hid (inB_true (n := (ps.length : Int)) (l := 3) (h := 10) |>.2 (by omega))
  have hlen3 : (3 : Int) ≤ ps.length := by omega
  have hlen10 : (ps.length : Int) ≤ 10 := by omega
  have HLN := Lib.hid hlen
  clear hlen
  go_enter Tryz.func7, Tryz.ntmps7
  go_wp2_with fail
  refine (Within_any _ _ _ _).mono ?_
  rintro e w1 ⟨rfl, rfl⟩
  rw [hin.out]
  go_wp2_with fail
  go_loopw [3] (fun x wr => ∃ k : Nat, (k : Int) ≤ ps.length ∧ x = .int .i64 k ∧ Below w.heap.size w wr ∧ Hid (Geo.difP (ps.take k))) (fun x _ => (ps.length - intOf x).toNat)
  case atStart => exact ⟨0, by omega, rfl, Below.refl _ _, ⟨by simp, by simp⟩⟩
  case round =>
    obtain ⟨i, hi, rfl, hB, hD⟩ := hrel
    have hi0 := Int.natCast_nonneg i
    by_cases hlt : (i : Int) < ps.length
    · have hil : i < ps.length := by omega
      have hgi : ps[i]? = some ps[i] := List.getElem?_eq_getElem hil
      obtain ⟨b, off, rfl, hb, hc⟩ := HG.out (by omega)
      have d0 := (hB.cell (p := ⟨b, off + i * 2, none⟩) hb).trans (hc i _ hgi).1
      have d1 := (hB.cell (p := ⟨b, off + i * 2 + 1, none⟩) hb).trans (hc i _ hgi).2
      have hbr : b < wr.heap.size := by have := hB.size; omega
      have HK := Lib.hid hgi
      have HC := Lib.hid hc
      clear hc hgi HG
      generalize ps[i] = p at *
      obtain ⟨x, y⟩ := p
      dsimp only at d0 d1
      go_wp2_with fail
      refine (IsPoint_any x y _).mono ?_
      rintro e w1 ⟨rfl, hb1⟩
      have hB1 : Below w.heap.size w w1 := Below.trans hB (hb1.mono hB.size)
      have hz1 := hb1.size
      have e0 : w1.cell? ⟨b, off + i * 2, none⟩ = some (.int .i64 x) := (hb1.cell (p := ⟨b, off + i * 2, none⟩) hbr).trans d0
      have e1 : w1.cell? ⟨b, off + i * 2 + 1, none⟩ = some (.int .i64 y) := (hb1.cell (p := ⟨b, off + i * 2 + 1, none⟩) hbr).trans d1
      clear d0 d1 hb1 hB
      cases hpt : Geo.ptB (x, y)
      · have hno := Lib.hid (Geo.refV_no (ps := ps) (fun h => by have h2 := h.2.1.1 (x, y) (List.mem_of_getElem? HK.out); rw [hpt] at h2; cases h2))
        clear hpt
        go_wp2_with fail
        go_returns
        exact ⟨ret_i hno.out.symm, hB1⟩
      · have HPT := Lib.hid hpt
        clear hpt
        go_wp2_with fail
        obtain ⟨wo, rfl⟩ : ∃ wo : World, wo = w1 := ⟨_, rfl⟩
        have hbo : b < wo.heap.size := by omega
        clear hz1 hbr
        go_loopw [4] (fun x' wr => ∃ k : Nat, (k : Int) ≤ i ∧ x' = .int .i64 k ∧ Below wo.heap.size wo wr ∧ Hid ((x, y) ∉ ps.take k)) (fun x' _ => (i - intOf x').toNat)
        case atStart => exact ⟨0, by omega, rfl, Below.refl _ _, Lib.hid (by simp)⟩
        case round =>
          obtain ⟨k, hk, rfl, hBk, hN⟩ := hrel
          have hk0 := Int.natCast_nonneg k
          by_cases hlt2 : (k : Int) < i
          · have hkl : k < ps.length := by omega
            have hgk : ps[k]? = some ps[k] := List.getElem?_eq_getElem hkl
            have hck := HC.out k _ hgk
            have a0 := (hBk.cell (p := ⟨b, off + i * 2, none⟩) hbo).trans e0
            have a1 := (hBk.cell (p := ⟨b, off + i * 2 + 1, none⟩) hbo).trans e1
            have a2 := (hBk.cell (p := ⟨b, off + k * 2, none⟩) hbo).trans ((hB1.cell (p := ⟨b, off + k * 2, none⟩) hb).trans hck.1)
            have a3 := (hBk.cell (p := ⟨b, off + k * 2 + 1, none⟩) hbo).trans ((hB1.cell (p := ⟨b, off + k * 2 + 1, none⟩) hb).trans hck.2)
            have HKK := Lib.hid hgk
            clear hck hgk e0 e1
            generalize ps[k] = p at *
            obtain ⟨x', y'⟩ := p
            dsimp only at a2 a3
            have hkn : (k : Int) < ps.length := by omega
            by_cases hxx : x' = x
            · by_cases hyy : y' = y
              · subst hxx hyy
                have hno := Lib.hid (Geo.refV_no (ps := ps) (fun h => Geo.not_twice h.2.1.2 HK.out HKK.out (by omega)))
                go_wp2_with fail
                go_quiet (fail)
                go_wp2_with fail
                go_returns
                exact ⟨ret_i hno.out.symm, by have := hB1.trans (hBk.mono hB1.size); (repeat' (first | (with_reducible exact Below.refl _ _) | (with_reducible assumption) | (with_reducible refine Below.alloc ?_ ?_ _) | (with_reducible refine below_drewN ?_ _) | (with_reducible refine Below.drew ?_) | (with_reducible refine Below.setCell ?_ ?_ _) | go_size))⟩
              · have hn2 := Lib.hid (Geo.not_take_succ HKK.out hN.out (fun e => hyy (congrArg Prod.snd e).symm))
                go_wp2_with fail
                go_quiet (fail)
                go_wp2_with fail
                go_roundw
                case rel => exact ⟨k + 1, by omega, by go_num, by (repeat' (first | (with_reducible exact Below.refl _ _) | (with_reducible assumption) | (with_reducible refine Below.alloc ?_ ?_ _) | (with_reducible refine below_drewN ?_ _) | (with_reducible refine Below.drew ?_) | (with_reducible refine Below.setCell ?_ ?_ _) | go_size)), hn2⟩
                case measure => simp [intOf]; omega
            · have hn2 := Lib.hid (Geo.not_take_succ HKK.out hN.out (fun e => hxx (congrArg Prod.fst e).symm))
              go_wp2_with fail
              go_quiet (fail)
              go_wp2_with fail
              go_roundw
              case rel => exact ⟨k + 1, by omega, by go_num, by (repeat' (first | (with_reducible exact Below.refl _ _) | (with_reducible assumption) | (with_reducible refine Below.alloc ?_ ?_ _) | (with_reducible refine below_drewN ?_ _) | (with_reducible refine Below.drew ?_) | (with_reducible refine Below.setCell ?_ ?_ _) | go_size)), hn2⟩
              case measure => simp [intOf]; omega
          · obtain rfl : k = i := by omega
            have hD2 := Lib.hid (Geo.difP_take HK.out hD.out HPT.out hN.out)
            go_wp2_with fail
            go_roundw
            case rel => exact ⟨k + 1, by omega, by go_num, hB1.trans (hBk.mono hB1.size), hD2⟩
            case measure => simp [intOf]; omega
    · obtain rfl : i = ps.length := by omega
      have hDP : Hid (Geo.difP ps) := by have := hD.out; rwa [List.take_length] at this
      have hsm : Hid (∀ p ∈ ps, Geo.sm p) := fun p hp => Geo.pt_sm (hDP.out.1 p hp)
      clear hD hlt hi hi0
      go_wp2_with fail
      obtain ⟨wo, rfl⟩ : ∃ wo : World, wo = wr := ⟨_, rfl⟩
      go_loopw [5] (fun x wr => ∃ k : Nat, (k : Int) ≤ ps.length ∧ x = .int .i64 k ∧ Below w.heap.size w wr ∧ Hid (Geo.fineP ps k)) (fun x _ => (ps.length - intOf x).toNat)
      case atStart => exact ⟨0, by omega, rfl, hB, Lib.hid (fun i hi => by omega)⟩
      case round =>
        clear hB
        obtain ⟨i, hi, rfl, hB, hF⟩ := hrel
        have hi0 := Int.natCast_nonneg i
        by_cases hlt : (i : Int) < ps.length
        · have hil : i < ps.length := by omega
          obtain ⟨b, off, rfl, hb, hc⟩ := HG.out (by omega)
          have HC : Hid (∀ W, Below w.heap.size w W → ∀ k, k < ps.length → W.cell? ⟨b, off + k * 2, none⟩ = some (.int .i64 (Geo.ptAt ps k).1) ∧ W.cell? ⟨b, off + k * 2 + 1, none⟩ = some (.int .i64 (Geo.ptAt ps k).2)) := fun W hW k hk => by
            have hg : ps[k]? = some ps[k] := List.getElem?_eq_getElem hk
            have := hc k _ hg
            rw [Geo.ptAt_eq hg]
            exact ⟨(hW.cell (p := ⟨b, off + k * 2, none⟩) hb).trans this.1, (hW.cell (p := ⟨b, off + k * 2 + 1, none⟩) hb).trans this.2⟩
          clear hc HG
          have hbw : b < wr.heap.size := by have := hB.size; omega
          have hm1 : (i + 1) % ps.length < ps.length := Nat.mod_lt _ (by omega)
          have hm2 : ((i + 1) % ps.length + 1) % ps.length < ps.length := Nat.mod_lt _ (by omega)
          have N1 := fun W => next_any (some ⟨b, off, none⟩) c ps i W hl hil
          have N2 := fun W => next_any (some ⟨b, off, none⟩) c ps ((i + 1) % ps.length) W hl hm1
          obtain ⟨i1, hi1⟩ : ∃ i1, i1 = (i + 1) % ps.length := ⟨_, rfl⟩
          obtain ⟨i2, hi2⟩ : ∃ i2, i2 = (i1 + 1) % ps.length := ⟨_, rfl⟩
          rw [← hi1] at N1 N2 hm1 hm2
          rw [← hi2] at N2 hm2
          have HN1 := Lib.hid N1
          have HN2 := Lib.hid N2
          have HI1 := Lib.hid hi1
          have HI2 := Lib.hid hi2
          clear N1 N2 hi1 hi2
          have hm1i : (i1 : Int) < ps.length := by omega
          have hm2i : (i2 : Int) < ps.length := by omega
          obtain ⟨a0, a1⟩ := HC.out _ hB i hil
          obtain ⟨a2, a3⟩ := HC.out _ hB i1 hm1
          obtain ⟨pa, hpa⟩ : ∃ pa, pa = Geo.ptAt ps i := ⟨_, rfl⟩
          obtain ⟨pb, hpb⟩ : ∃ pb, pb = Geo.ptAt ps i1 := ⟨_, rfl⟩
          rw [← hpa] at a0 a1
          rw [← hpb] at a2 a3
          have HPA := Lib.hid hpa
          have HPB := Lib.hid hpb
          clear hpa hpb
          obtain ⟨x1, y1⟩ := pa
          obtain ⟨x2, y2⟩ := pb
          dsimp only at a0 a1 a2 a3
          go_upto_region 16 with fail
          go_cut [6, 7] from 40 to 109 (fun s6 s7 wx => ∃ g h : Nat, s6 = .pointer (some ⟨g, 0, none⟩) ∧ s7 = .pointer (some ⟨h, 0, none⟩) ∧ BoxS wx g 53 #[.int .i64 x1, .int .i64 y1] ∧ BoxS wx h 53 #[.int .i64 x2, .int .i64 y2] ∧ Below wr.heap.size wr wx)
          case first =>
            refine (wpIn_wide (n := 4)).1 ?_
            have hmo : Tryz.prog.follows .mixedOrders = true := by kernel_rfl
            have q0 : Below wr.heap.size wr wr.drew := (Below.refl _ _).drew
            have KC : Hid (∀ W', Below wr.heap.size wr W' → (W'.cell? ⟨b, off + i * 2, none⟩ = some (.int .i64 x1) ∧ W'.cell? ⟨b, off + i * 2 + 1, none⟩ = some (.int .i64 y1)) ∧ (W'.cell? ⟨b, off + i1 * 2, none⟩ = some (.int .i64 x2) ∧ W'.cell? ⟨b, off + i1 * 2 + 1, none⟩ = some (.int .i64 y2))) := fun W' h => ⟨⟨(h.cell (p := ⟨b, off + i * 2, none⟩) hbw).trans a0, (h.cell (p := ⟨b, off + i * 2 + 1, none⟩) hbw).trans a1⟩, (h.cell (p := ⟨b, off + i1 * 2, none⟩) hbw).trans a2, (h.cell (p := ⟨b, off + i1 * 2 + 1, none⟩) hbw).trans a3⟩
            clear a0 a1 a2 a3
            refine wpIn_region_held (fun W' => Below wr.heap.size wr W') 14 hmo ?_
            refine wpHeldIn_take (i := 0) (v := ?_) (plain_of (by kernel_rfl)) rfl (by kernel_rfl) (fun _ _ _ h => h) (yieldsSoIn_of (by kernel_rfl) ?_ (fun _ => rfl)) q0 ?_; rotate_left; focus (intro wq hw; clear hw; go_simp; try (with_reducible rfl))
            refine wpHeldIn_take (i := 1) (v := ?_) (plain_of (by kernel_rfl)) rfl (by kernel_rfl) (fun _ _ _ h => h) (yieldsSoIn_of (by kernel_rfl) ?_ (fun _ => rfl)) q0 ?_; rotate_left; focus (intro wq hw; clear hw; go_simp; try (with_reducible rfl))
            refine wpHeldIn_take (i := 2) (v := ?_) (plain_of (by kernel_rfl)) rfl (by kernel_rfl) (fun _ _ _ h => h) (yieldsSoIn_of (by kernel_rfl) ?_ (fun _ => rfl)) q0 ?_; rotate_left; focus (intro wq hw; clear hw; go_simp; try (with_reducible rfl))
            refine wpHeldIn_take (i := 3) (v := ?_) (plain_of (by kernel_rfl)) rfl (by kernel_rfl) (fun _ _ _ h => h) (yieldsSoIn_of (by kernel_rfl) ?_ (fun _ => rfl)) q0 ?_; rotate_left; focus (intro wq hw; have kq := KC.out wq hw; clear hw; go_simp; try (with_reducible rfl))
            refine wpHeldIn_take (i := 4) (v := ?_) (plain_of (by kernel_rfl)) rfl (by kernel_rfl) (fun _ _ _ h => h) (yieldsSoIn_of (by kernel_rfl) ?_ (fun _ => rfl)) q0 ?_; rotate_left; focus (intro wq hw; clear hw; go_simp; try (with_reducible rfl))
            refine wpHeldIn_take (i := 5) (v := ?_) (plain_of (by kernel_rfl)) rfl (by kernel_rfl) (fun _ _ _ h => h) (yieldsSoIn_of (by kernel_rfl) ?_ (fun _ => rfl)) q0 ?_; rotate_left; focus (intro wq hw; clear hw; go_simp; try (with_reducible rfl))
            refine wpHeldIn_take (i := 6) (v := ?_) (plain_of (by kernel_rfl)) rfl (by kernel_rfl) (fun _ _ _ h => h) (yieldsSoIn_of (by kernel_rfl) ?_ (fun _ => rfl)) q0 ?_; rotate_left; focus (intro wq hw; clear hw; go_simp; try (with_reducible rfl))
            refine wpHeldIn_take (i := 7) (v := .int .i64 i1) (plain_of (by kernel_rfl)) rfl (by kernel_rfl) (fun _ _ _ h => h) (yieldsSoIn_call (by kernel_rfl) ?_ rfl (fun _ => trivial) (fun m wq hw => callsIn_wide.2 ((HN1.out wq).mono (fun e w' h => ⟨h.1, h.2.symm⟩)))) q0 ?_; focus (intro wq hw; clear hw; go_simp; try (with_reducible rfl))
            refine wpHeldIn_take (i := 8) (v := ?_) (plain_of (by kernel_rfl)) rfl (by kernel_rfl) (fun _ _ _ h => h) (yieldsSoIn_of (by kernel_rfl) ?_ (fun _ => rfl)) q0 ?_; rotate_left; focus (intro wq hw; clear hw; go_simp; try (with_reducible rfl))
            refine wpHeldIn_take (i := 9) (v := ?_) (plain_of (by kernel_rfl)) rfl (by kernel_rfl) (fun _ _ _ h => h) (yieldsSoIn_of (by kernel_rfl) ?_ (fun _ => rfl)) q0 ?_; rotate_left; focus (intro wq hw; have kq := KC.out wq hw; clear hw; go_simp; try (with_reducible rfl))
            refine wpHeldIn_two (i := 10) (j := 11) (by kernel_rfl) (by kernel_rfl) (by kernel_rfl) rfl rfl (by kernel_rfl) (by kernel_rfl) (fun K' hK' => ?_) (fun K' hK' => ?_)
            · go_simp
              refine hK' _ _ (by (repeat' (first | (with_reducible exact Below.refl _ _) | (with_reducible assumption) | (with_reducible refine Below.alloc ?_ ?_ _) | (with_reducible refine Below.drew ?_) | (with_reducible refine Below.setCell ?_ ?_ _) | go_size | (exact (by simp)) | omega))) ?_
              refine wpHeldIn_one (i := 11) (by kernel_rfl) (by kernel_rfl) rfl (by kernel_rfl) (fun K' hK' => ?_); go_simp; refine hK' _ _ (by (repeat' (first | (with_reducible exact Below.refl _ _) | (with_reducible assumption) | (with_reducible refine Below.alloc ?_ ?_ _) | (with_reducible refine Below.drew ?_) | (with_reducible refine Below.setCell ?_ ?_ _) | go_size | (exact (by simp)) | omega))) ?_
              refine wpHeldIn_one (i := 12) (by kernel_rfl) (by kernel_rfl) rfl (by kernel_rfl) (fun K' hK' => ?_); go_simp; refine hK' _ _ (by (repeat' (first | (with_reducible exact Below.refl _ _) | (with_reducible assumption) | (with_reducible refine Below.alloc ?_ ?_ _) | (with_reducible refine Below.drew ?_) | (with_reducible refine Below.setCell ?_ ?_ _) | go_size | (exact (by simp)) | omega))) ?_
              refine wpHeldIn_one (i := 13) (by kernel_rfl) (by kernel_rfl) rfl (by kernel_rfl) (fun K' hK' => ?_); go_simp; refine hK' _ _ (by (repeat' (first | (with_reducible exact Below.refl _ _) | (with_reducible assumption) | (with_reducible refine Below.alloc ?_ ?_ _) | (with_reducible refine Below.drew ?_) | (with_reducible refine Below.setCell ?_ ?_ _) | go_size | (exact (by simp)) | omega))) ?_
              refine wpHeldIn_done (by kernel_rfl) ?_ _
              go_wp2_with fail
              go_meet
              exact ⟨_, _, rfl, rfl, BoxS.drew ((BoxS.new wr _ _).alloc _), BoxS.drew (by have := BoxS.new (wr.alloc (.cells #[.int .i64 x1, .int .i64 y1] 53)) 53 #[.int .i64 x2, .int .i64 y2]; rw [World.size_alloc] at this; exact this), by (repeat' (first | (with_reducible exact Below.refl _ _) | (with_reducible assumption) | (with_reducible refine Below.alloc ?_ ?_ _) | (with_reducible refine Below.drew ?_) | (with_reducible refine Below.setCell ?_ ?_ _) | go_size | (exact (by simp)) | omega))⟩
            · go_simp
              refine hK' _ _ (by (repeat' (first | (with_reducible exact Below.refl _ _) | (with_reducible assumption) | (with_reducible refine Below.alloc ?_ ?_ _) | (with_reducible refine Below.drew ?_) | (with_reducible refine Below.setCell ?_ ?_ _) | go_size | (exact (by simp)) | omega))) ?_
              refine wpHeldIn_one (i := 10) (by kernel_rfl) (by kernel_rfl) rfl (by kernel_rfl) (fun K' hK' => ?_); go_simp; refine hK' _ _ (by (repeat' (first | (with_reducible exact Below.refl _ _) | (with_reducible assumption) | (with_reducible refine Below.alloc ?_ ?_ _) | (with_reducible refine Below.drew ?_) | (with_reducible refine Below.setCell ?_ ?_ _) | go_size | (exact (by simp)) | omega))) ?_
              refine wpHeldIn_one (i := 12) (by kernel_rfl) (by kernel_rfl) rfl (by kernel_rfl) (fun K' hK' => ?_); go_simp; refine hK' _ _ (by (repeat' (first | (with_reducible exact Below.refl _ _) | (with_reducible assumption) | (with_reducible refine Below.alloc ?_ ?_ _) | (with_reducible refine Below.drew ?_) | (with_reducible refine Below.setCell ?_ ?_ _) | go_size | (exact (by simp)) | omega))) ?_
              refine wpHeldIn_one (i := 13) (by kernel_rfl) (by kernel_rfl) rfl (by kernel_rfl) (fun K' hK' => ?_); go_simp; refine hK' _ _ (by (repeat' (first | (with_reducible exact Below.refl _ _) | (with_reducible assumption) | (with_reducible refine Below.alloc ?_ ?_ _) | (with_reducible refine Below.drew ?_) | (with_reducible refine Below.setCell ?_ ?_ _) | go_size | (exact (by simp)) | omega))) ?_
              refine wpHeldIn_done (by kernel_rfl) ?_ _
              go_wp2_with fail
              go_meet
              exact ⟨_, _, rfl, rfl, BoxS.drew (by have := BoxS.new (wr.alloc (.cells #[.int .i64 x2, .int .i64 y2] 53)) 53 #[.int .i64 x1, .int .i64 y1]; rw [World.size_alloc] at this; exact this), BoxS.drew ((BoxS.new wr _ _).alloc _), by (repeat' (first | (with_reducible exact Below.refl _ _) | (with_reducible assumption) | (with_reducible refine Below.alloc ?_ ?_ _) | (with_reducible refine Below.drew ?_) | (with_reducible refine Below.setCell ?_ ?_ _) | go_size | (exact (by simp)) | omega))⟩
          case rest =>
            obtain ⟨g, h, rfl, rfl, bg, bh, hBc⟩ := hcut
            have HSm : Hid (∀ k, k < ps.length → Geo.sm (Geo.ptAt ps k)) := fun k hk => by
              rw [Geo.ptAt_eq (List.getElem?_eq_getElem hk)]; exact hsm.out _ (List.getElem_mem hk)
            have hBw := hB.trans (hBc.mono hB.size)
            clear a0 a1 a2 a3 hbw
            obtain ⟨w0, rfl⟩ : ∃ w0 : World, w0 = wc := ⟨_, rfl⟩
            obtain ⟨a4, a5⟩ := HC.out _ hBw i2 hm2
            obtain ⟨pc, hpc⟩ : ∃ pc, pc = Geo.ptAt ps i2 := ⟨_, rfl⟩
            rw [← hpc] at a4 a5
            have HPC := Lib.hid hpc
            clear hpc
            obtain ⟨x3, y3⟩ := pc
            dsimp only at a4 a5
            have O1 : Hid (∀ W, Calls Tryz.prog 21 #[.agg #[.int .i64 x1, .int .i64 y1], .agg #[.int .i64 x2, .int .i64 y2], .agg #[.int .i64 x3, .int .i64 y3]] W fun e w' => e = .returned (.bool (Geo.onB (x1, y1) (x2, y2) (x3, y3))) ∧ Below W.heap.size W w') := fun W => On_any _ _ _ _ _ _ W (by rw [HPA.out]; exact HSm.out _ hil) (by rw [HPB.out]; exact HSm.out _ hm1) (by rw [HPC.out]; exact HSm.out _ hm2)
            have O2 : Hid (∀ W, Calls Tryz.prog 21 #[.agg #[.int .i64 x2, .int .i64 y2], .agg #[.int .i64 x3, .int .i64 y3], .agg #[.int .i64 x1, .int .i64 y1]] W fun e w' => e = .returned (.bool (Geo.onB (x2, y2) (x3, y3) (x1, y1))) ∧ Below W.heap.size W w') := fun W => On_any _ _ _ _ _ _ W (by rw [HPB.out]; exact HSm.out _ hm1) (by rw [HPC.out]; exact HSm.out _ hm2) (by rw [HPA.out]; exact HSm.out _ hil)
            have HNE : Hid (Geo.nearB ps i = (Geo.onB (x1, y1) (x2, y2) (x3, y3) || Geo.onB (x2, y2) (x3, y3) (x1, y1))) := by
              unfold Geo.nearB Hid
              rw [← HI1.out, ← HI2.out, ← HPA.out, ← HPB.out, ← HPC.out]
            generalize Geo.onB (x1, y1) (x2, y2) (x3, y3) = o1 at *
            generalize Geo.onB (x2, y2) (x3, y3) (x1, y1) = o2 at *
            go_wp2_with fail
            refine (HN1.out _).mono ?_
            rintro e w1 ⟨rfl, rfl⟩
            go_wp2_with fail
            refine (HN2.out _).mono ?_
            rintro e w1 ⟨rfl, rfl⟩
            obtain ⟨cg0, cg1⟩ := boxS2 bg
            obtain ⟨ch0, ch1⟩ := boxS2 bh
            have lg := bg.lt
            have lh := bh.lt
            go_wp2_with fail
            have bc := BoxS.new w0 53 #[.int .i64 x3, .int .i64 y3]
            have bg1 := bg.alloc (.cells #[.int .i64 x3, .int .i64 y3] 53)
            have bh1 := bh.alloc (.cells #[.int .i64 x3, .int .i64 y3] 53)
            have hBa : Below w.heap.size w (w0.alloc (.cells #[.int .i64 x3, .int .i64 y3] 53)) := hBw.alloc hBw.size _
            clear cg0 cg1 ch0 ch1 lg lh bg bh a4 a5
            refine (O1.out _).mono ?_
            rintro e w2 ⟨rfl, hb2⟩
            have bg2 := bg1.below hb2
            have bh2 := bh1.below hb2
            have bc2 := bc.below hb2
            have hB2 : Below w.heap.size w w2 := hBa.trans (hb2.mono hBa.size)
            clear bg1 bh1 bc hb2 hBa
            cases o1 with
            | true =>
              have hno := Lib.hid (Geo.refV_no (ps := ps) (fun h => by have := (h.2.2 i hil).1; rw [HNE.out] at this; cases this))
              go_wp2_with fail
              go_returns
              exact ⟨ret_i hno.out.symm, hB2⟩
            | false =>
              obtain ⟨cg0, cg1⟩ := boxS2 bg2
              obtain ⟨ch0, ch1⟩ := boxS2 bh2
              obtain ⟨cc0, cc1⟩ := boxS2 bc2
              go_wp2_with fail
              refine (O2.out _).mono ?_
              rintro e w3 ⟨rfl, hb3⟩
              have bg3 := bg2.below hb3
              have bh3 := bh2.below hb3
              have hB3 : Below w.heap.size w w3 := hB2.trans (hb3.mono hB2.size)
              clear bg2 bh2 bc2 hb3 cg0 cg1 ch0 ch1 cc0 cc1 hB2
              cases o2 with
              | true =>
                have hno := Lib.hid (Geo.refV_no (ps := ps) (fun h => by have := (h.2.2 i hil).1; rw [HNE.out] at this; cases this))
                go_wp2_with fail
                go_returns
                exact ⟨ret_i hno.out.symm, hB3⟩
              | false =>
                go_wp2_with fail
                obtain ⟨wd, rfl⟩ : ∃ wd : World, wd = w3 := ⟨_, rfl⟩
                go_loopw [9] (fun x wr => ∃ k : Nat, (k : Int) ≤ ps.length ∧ x = .int .i64 k ∧ Below wd.heap.size wd wr ∧ Hid (Geo.farP ps i k)) (fun x _ => (ps.length - intOf x).toNat)
                case atStart => exact ⟨0, by omega, rfl, Below.refl _ _, Lib.hid (fun i hi => by omega)⟩
                case round =>
                  obtain ⟨k, hk, rfl, hBk, hFk⟩ := hrel
                  have hk0 := Int.natCast_nonneg k
                  by_cases hlt2 : (k : Int) < ps.length
                  · have hkl : k < ps.length := by omega
                    have hmk : (k + 1) % ps.length < ps.length := Nat.mod_lt _ (by omega)
                    have N3 := fun W => next_any (some ⟨b, off, none⟩) c ps k W hl hkl
                    have HFB : Hid (Geo.farB ps i k = (!(decide (k = i) || (decide (k = i1) || decide ((k + 1) % ps.length = i))) && Geo.meetB (Geo.ptAt ps i) (Geo.ptAt ps i1) (Geo.ptAt ps k) (Geo.ptAt ps ((k + 1) % ps.length)))) := by
                      unfold Hid Geo.farB Geo.nextB
                      rw [← HI1.out]
                    generalize (k + 1) % ps.length = k1 at *
                    have HN3 := Lib.hid N3
                    clear N3
                    have hkl1 : (k1 : Int) < ps.length := by omega
                    by_cases hki : k = i
                    · have hf2 := Lib.hid (Geo.farP_succ hFk.out (by rw [HFB.out]; simp [hki]))
                      obtain rfl : k = i := hki
                      go_wp2_with fail
                      go_roundw
                      case rel => exact ⟨k + 1, by omega, by go_num, hBk, hf2⟩
                      case measure => simp [intOf]; omega
                    · have t1 : ((k : Int) == (i : Int)) = false := by simp; omega
                      have t2 : ¬ (k : Int) = (i : Int) := by omega
                      by_cases hk1 : k = i1
                      · have hf2 := Lib.hid (Geo.farP_succ hFk.out (by rw [HFB.out]; simp [hk1]))
                        have HK1 := Lib.hid hk1
                        have t3 : ((k : Int) == (i1 : Int)) = true := by simp; omega
                        have t4 : (k : Int) = (i1 : Int) := by omega
                        have HT4 := Lib.hid t4
                        clear hk1 t4
                        go_wp2_with fail
                        refine (HN1.out _).mono ?_
                        rintro e w1 ⟨rfl, rfl⟩
                        go_wp2_with fail
                        go_roundw
                        case rel => exact ⟨k + 1, by omega, by go_num, hBk, hf2⟩
                        case measure => simp [intOf]; omega
                      · have t3 : ((k : Int) == (i1 : Int)) = false := by simp; omega
                        have t4 : ¬ (k : Int) = (i1 : Int) := by omega
                        by_cases hk2 : k1 = i
                        · have hf2 := Lib.hid (Geo.farP_succ hFk.out (by rw [HFB.out]; simp [hk2]))
                          have t5 : ((k1 : Int) == (i : Int)) = true := by simp; omega
                          have HK2 := Lib.hid hk2
                          clear hk2
                          go_wp2_with fail
                          refine (HN1.out _).mono ?_
                          rintro e w1 ⟨rfl, rfl⟩
                          go_wp2_with fail
                          refine (HN3.out _).mono ?_
                          rintro e w1 ⟨rfl, rfl⟩
                          go_wp2_with fail
                          go_roundw
                          case rel => exact ⟨k + 1, by omega, by go_num, hBk, hf2⟩
                          case measure => simp [intOf]; omega
                        · have t5 : ((k1 : Int) == (i : Int)) = false := by simp; omega
                          have t6 : ¬ (k1 : Int) = (i : Int) := by omega
                          go_wp2_with fail
                          refine (HN1.out _).mono ?_
                          rintro e w1 ⟨rfl, rfl⟩
                          go_wp2_with fail
                          refine (HN3.out _).mono ?_
                          rintro e w1 ⟨rfl, rfl⟩
                          go_wp2_with fail
                          have bg4 := bg3.below hBk
                          have bh4 := bh3.below hBk
                          have hB4 := hB3.trans (hBk.mono hB3.size)
                          obtain ⟨cg0, cg1⟩ := boxS2 bg4
                          obtain ⟨ch0, ch1⟩ := boxS2 bh4
                          obtain ⟨a6, a7⟩ := HC.out _ hB4 k hkl
                          obtain ⟨a8, a9⟩ := HC.out _ hB4 k1 hmk
                          have HM : Hid (∀ W, Calls Tryz.prog 22 #[.agg #[.int .i64 x1, .int .i64 y1], .agg #[.int .i64 x2, .int .i64 y2], .agg #[.int .i64 (Geo.ptAt ps k).1, .int .i64 (Geo.ptAt ps k).2], .agg #[.int .i64 (Geo.ptAt ps k1).1, .int .i64 (Geo.ptAt ps k1).2]] W fun e w' => e = .returned (.bool (Geo.meetB (x1, y1) (x2, y2) (Geo.ptAt ps k) (Geo.ptAt ps k1))) ∧ Below W.heap.size W w') := fun W => meet_any _ _ _ _ _ _ _ _ W (by rw [HPA.out]; exact HSm.out _ hil) (by rw [HPB.out]; exact HSm.out _ hm1) (HSm.out _ hkl) (HSm.out _ hmk)
                          have HFC : Hid (Geo.farB ps i k = Geo.meetB (x1, y1) (x2, y2) (Geo.ptAt ps k) (Geo.ptAt ps k1)) := by
                            unfold Hid
                            rw [HFB.out, HPA.out, HPB.out, decide_eq_false hki, decide_eq_false hk1, decide_eq_false hk2]
                            rfl
                          generalize Geo.meetB (x1, y1) (x2, y2) (Geo.ptAt ps k) (Geo.ptAt ps k1) = mb at *
                          generalize Geo.ptAt ps k = pk at *
                          generalize Geo.ptAt ps k1 = pl at *
                          obtain ⟨x4, y4⟩ := pk
                          obtain ⟨x5, y5⟩ := pl
                          dsimp only at a6 a7 a8 a9 HM
                          refine (wpIn_wide (n := 4)).1 ?_
                          have hmo : Tryz.prog.follows .mixedOrders = true := by kernel_rfl
                          refine wpIn_region_held (fun W' => W' = wr.drew) 12 hmo ?_
                          refine wpHeldIn_take (i := 0) (v := ?_) (plain_of (by kernel_rfl)) rfl (by kernel_rfl) (fun _ _ _ h => h) (yieldsSoIn_of (by kernel_rfl) ?_ (fun _ => rfl)) rfl ?_; rotate_left; focus (intro w hw; cases hw; go_simp; try (with_reducible rfl))
                          refine wpHeldIn_take (i := 1) (v := ?_) (plain_of (by kernel_rfl)) rfl (by kernel_rfl) (fun _ _ _ h => h) (yieldsSoIn_of (by kernel_rfl) ?_ (fun _ => rfl)) rfl ?_; rotate_left; focus (intro w hw; cases hw; go_simp; try (with_reducible rfl))
                          refine wpHeldIn_take (i := 2) (v := ?_) (plain_of (by kernel_rfl)) rfl (by kernel_rfl) (fun _ _ _ h => h) (yieldsSoIn_of (by kernel_rfl) ?_ (fun _ => rfl)) rfl ?_; rotate_left; focus (intro w hw; cases hw; go_simp; try (with_reducible rfl))
                          refine wpHeldIn_take (i := 3) (v := ?_) (plain_of (by kernel_rfl)) rfl (by kernel_rfl) (fun _ _ _ h => h) (yieldsSoIn_of (by kernel_rfl) ?_ (fun _ => rfl)) rfl ?_; rotate_left; focus (intro w hw; cases hw; go_simp; try (with_reducible rfl))
                          refine wpHeldIn_take (i := 4) (v := ?_) (plain_of (by kernel_rfl)) rfl (by kernel_rfl) (fun _ _ _ h => h) (yieldsSoIn_of (by kernel_rfl) ?_ (fun _ => rfl)) rfl ?_; rotate_left; focus (intro w hw; cases hw; go_simp; try (with_reducible rfl))
                          refine wpHeldIn_take (i := 5) (v := ?_) (plain_of (by kernel_rfl)) rfl (by kernel_rfl) (fun _ _ _ h => h) (yieldsSoIn_of (by kernel_rfl) ?_ (fun _ => rfl)) rfl ?_; rotate_left; focus (intro w hw; cases hw; go_simp; try (with_reducible rfl))
                          refine wpHeldIn_take (i := 6) (v := ?_) (plain_of (by kernel_rfl)) rfl (by kernel_rfl) (fun _ _ _ h => h) (yieldsSoIn_of (by kernel_rfl) ?_ (fun _ => rfl)) rfl ?_; rotate_left; focus (intro w hw; cases hw; go_simp; try (with_reducible rfl))
                          refine wpHeldIn_take (i := 7) (v := ?_) (plain_of (by kernel_rfl)) rfl (by kernel_rfl) (fun _ _ _ h => h) (yieldsSoIn_of (by kernel_rfl) ?_ (fun _ => rfl)) rfl ?_; rotate_left; focus (intro w hw; cases hw; go_simp; try (with_reducible rfl))
                          refine wpHeldIn_take (i := 8) (v := ?_) (plain_of (by kernel_rfl)) rfl (by kernel_rfl) (fun _ _ _ h => h) (yieldsSoIn_of (by kernel_rfl) ?_ (fun _ => rfl)) rfl ?_; rotate_left; focus (intro w hw; cases hw; go_simp; try (with_reducible rfl))
                          refine wpHeldIn_take (i := 9) (v := .int .i64 k1) (plain_of (by kernel_rfl)) rfl (by kernel_rfl) (fun _ _ _ h => h) (yieldsSoIn_call (by kernel_rfl) ?_ rfl (fun _ => trivial) (fun m wq hw => callsIn_wide.2 ((HN3.out wq).mono (fun e w' h => ⟨h.1, h.2.symm⟩)))) rfl ?_; focus (intro wq hw; clear hw; go_simp; try (with_reducible rfl))
                          refine wpHeldIn_take (i := 10) (v := ?_) (plain_of (by kernel_rfl)) rfl (by kernel_rfl) (fun _ _ _ h => h) (yieldsSoIn_of (by kernel_rfl) ?_ (fun _ => rfl)) rfl ?_; rotate_left; focus (intro w hw; cases hw; go_simp; try (with_reducible rfl))
                          refine wpHeldIn_take (i := 11) (v := ?_) (plain_of (by kernel_rfl)) rfl (by kernel_rfl) (fun _ _ _ h => h) (yieldsSoIn_of (by kernel_rfl) ?_ (fun _ => rfl)) rfl ?_; rotate_left; focus (intro w hw; cases hw; go_simp; try (with_reducible rfl))
                          refine wpHeldIn_last (by kernel_rfl) rfl (by kernel_rfl) (fun K' hK' => ?_)
                          go_simp
                          refine ⟨trivial, (callsIn_wide.2 (HM.out _)).mono ?_⟩
                          rintro e w4 ⟨rfl, hb4⟩
                          have hb5 : Below wr.heap.size wr w4 := (Below.refl _ wr).drew.trans hb4
                          have hB5 : Below w.heap.size w w4 := hB4.trans (hb5.mono hB4.size)
                          have hB6 : Below wd.heap.size wd w4 := hBk.trans (hb5.mono hBk.size)
                          refine hK' _ _ ?_
                          refine wpHeldIn_done (by kernel_rfl) ?_ _
                          clear cg0 cg1 ch0 ch1 a6 a7 a8 a9
                          cases mb with
                          | true =>
                            have hno := Lib.hid (Geo.refV_no (ps := ps) (fun h => by have := (h.2.2 i hil).2 k hkl; rw [HFC.out] at this; cases this))
                            go_wp2_with fail
                            go_returns
                            exact ⟨ret_i hno.out.symm, hB5⟩
                          | false =>
                            have hf2 := Lib.hid (Geo.farP_succ hFk.out HFC.out)
                            go_wp2_with fail
                            go_roundw
                            case rel => exact ⟨k + 1, by omega, by go_num, hB6, hf2⟩
                            case measure => simp [intOf]; omega
                  · obtain rfl : k = ps.length := by omega
                    have hF2 := Lib.hid (Geo.fineP_succ hF.out HNE.out hFk.out)
                    clear hlt2
                    go_wp2_with fail
                    go_roundw
                    case rel => exact ⟨i + 1, by omega, by go_num, hB3.trans (hBk.mono hB3.size), hF2⟩
                    case measure => simp [intOf]; omega
        · obtain rfl : i = ps.length := by omega
          have hyes := Lib.hid (Geo.refV_yes (ps := ps) ⟨HLN.out, hDP.out, hF.out⟩)
          clear hlt
          go_wp2_with fail
          go_returns
          exact ⟨ret_i hyes.out.symm, hB⟩
end Go.Proofs.YtmjcdggmofohcaaGreat
namespace Go.Proofs.YtmjcdggmofohcaaGreat
namespace Geo
theorem turn_at_b (a b : Pt) : turn a b b = 0 := by unfold turn; rw [Int.mul_comm]; omega
theorem turn_at_a (a b : Pt) : turn a b a = 0 := by unfold turn; simp
theorem next_val {n i : Nat} (h : i < n) : (i + 1) % n = if i + 1 = n then 0 else i + 1 := by
  by_cases e : i + 1 = n
  · rw [if_pos e, e, Nat.mod_self]
  · rw [if_neg e, Nat.mod_eq_of_lt (by omega)]
theorem next_lt {n i : Nat} (h : i < n) : (i + 1) % n < n := Nat.mod_lt _ (by omega)
theorem next_inj {n i k : Nat} (hi : i < n) (hk : k < n) (h : (i + 1) % n = (k + 1) % n) : i = k := by
  rw [next_val hi, next_val hk] at h
  split at h <;> split at h <;> omega
theorem next_ne {n i : Nat} (hn : 2 ≤ n) (hi : i < n) : (i + 1) % n ≠ i := by
  rw [next_val hi]
  split <;> omega
theorem next2_ne {n i : Nat} (hn : 3 ≤ n) (hi : i < n) : ((i + 1) % n + 1) % n ≠ i := by
  rw [next_val (next_lt hi), next_val hi]
  split <;> split <;> omega
theorem ptAt_inj {ps : List Pt} (h : ps.Nodup) {i k : Nat} (hi : i < ps.length) (hk : k < ps.length) (e : ptAt ps i = ptAt ps k) : i = k := by
  rw [ptAt_eq (List.getElem?_eq_getElem hi), ptAt_eq (List.getElem?_eq_getElem hk)] at e
  exact (List.getElem_inj h).1 e
theorem sign_part {s t : Int} : s.sign * t.sign < 0 ↔ (s < 0 ∧ 0 < t) ∨ (0 < s ∧ t < 0) := by
  rcases Int.lt_trichotomy s 0 with h | rfl | h
  · rcases Int.lt_trichotomy t 0 with h2 | rfl | h2
    · rw [Int.sign_eq_neg_one_of_neg h, Int.sign_eq_neg_one_of_neg h2]; omega
    · simp
    · rw [Int.sign_eq_neg_one_of_neg h, Int.sign_eq_one_of_pos h2]; omega
  · simp
  · rcases Int.lt_trichotomy t 0 with h2 | rfl | h2
    · rw [Int.sign_eq_one_of_pos h, Int.sign_eq_neg_one_of_neg h2]; omega
    · simp
    · rw [Int.sign_eq_one_of_pos h, Int.sign_eq_one_of_pos h2]; omega
theorem partB_iff (a b c d : Pt) : partB a b c d = true ↔ (turn a b c < 0 ∧ 0 < turn a b d) ∨ (0 < turn a b c ∧ turn a b d < 0) := by unfold partB; simp
theorem passB_iff (a b p : Pt) : passB a b p = true ↔ p ≠ a ∧ p ≠ b ∧ onB a b p = true := by unfold passB; simp
theorem meetB_iff (a b c d : Pt) : meetB a b c d = true ↔ onB a b c = true ∨ onB a b d = true ∨ onB c d a = true ∨ onB c d b = true ∨ (partB a b c d = true ∧ partB c d a b = true) := by
  unfold meetB someOn
  rw [partB_iff, partB_iff, ← sign_part, ← sign_part]
  simp [or_assoc]
theorem mem_sidesL {ps : List Pt} {s : Pt × Pt} : s ∈ sidesL ps ↔ ∃ i, i < ps.length ∧ s = (ptAt ps i, ptAt ps ((i + 1) % ps.length)) := by
  unfold sidesL
  rw [List.mem_map]
  constructor
  · rintro ⟨i, hi, rfl⟩; exact ⟨i, List.mem_range.1 hi, rfl⟩
  · rintro ⟨i, hi, rfl⟩; exact ⟨i, List.mem_range.2 hi, rfl⟩
/-- No two sides have more in common than a corner, as the program has it. -/
def freeP (ps : List Pt) : Prop := ∀ i k, i < ps.length → k < ps.length → badB (ptAt ps i, ptAt ps ((i + 1) % ps.length)) (ptAt ps k, ptAt ps ((k + 1) % ps.length)) = false
theorem validB_iff (ps : List Pt) : validB ps = true ↔ (3 ≤ ps.length ∧ ps.length ≤ 10) ∧ difP ps ∧ freeP ps := by
  unfold validB
  rw [Bool.and_eq_true, Bool.and_eq_true, Bool.and_eq_true, decide_eq_true_iff, decide_eq_true_iff]
  refine and_congr Iff.rfl (and_congr (by unfold difB; simp) ?_)
  constructor
  · intro h i k hi hk
    cases hb : badB (ptAt ps i, ptAt ps ((i + 1) % ps.length)) (ptAt ps k, ptAt ps ((k + 1) % ps.length)) with
    | false => rfl
    | true =>
      have h1 : ((sidesL ps).any fun s => (sidesL ps).any fun t => badB s t) = true := List.any_eq_true.2 ⟨_, mem_sidesL.2 ⟨i, hi, rfl⟩, List.any_eq_true.2 ⟨_, mem_sidesL.2 ⟨k, hk, rfl⟩, hb⟩⟩
      rw [h1] at h
      cases h
  · intro h
    cases hb : (sidesL ps).any fun s => (sidesL ps).any fun t => badB s t with
    | false => rfl
    | true =>
      obtain ⟨s, hs, h2⟩ := List.any_eq_true.1 hb
      obtain ⟨t, ht, h3⟩ := List.any_eq_true.1 h2
      obtain ⟨i, hi, rfl⟩ := mem_sidesL.1 hs
      obtain ⟨k, hk, rfl⟩ := mem_sidesL.1 ht
      rw [h i k hi hk] at h3
      cases h3
theorem bad_pass {a b c d : Pt} (h : badB (a, b) (c, d) = false) (h1 : c ≠ a) (h2 : c ≠ b) : onB a b c = false := by
  cases ho : onB a b c with
  | false => rfl
  | true =>
    unfold badB at h
    dsimp only at h
    rw [(passB_iff _ _ _).2 ⟨h1, h2, ho⟩] at h
    cases h
theorem bad_part {a b c d : Pt} (h : badB (a, b) (c, d) = false) : ¬ (partB a b c d = true ∧ partB c d a b = true) := by
  rintro ⟨h1, h2⟩
  unfold badB at h
  dsimp only at h
  rw [h1, h2] at h
  simp at h
theorem fine_of_free {ps : List Pt} (hn : 3 ≤ ps.length) (hd : ps.Nodup) (h : freeP ps) : fineP ps ps.length := by
  intro i hi
  have hi1 := next_lt hi
  have hi2 := next_lt hi1
  have n1 := next_ne (by omega) hi
  have n2 := next2_ne hn hi
  have n3 := next_ne (n := ps.length) (by omega) hi1
  have hf : ∀ a b, a < ps.length → b < ps.length → b ≠ a → b ≠ (a + 1) % ps.length → onB (ptAt ps a) (ptAt ps ((a + 1) % ps.length)) (ptAt ps b) = false := fun a b ha hb h1 h2 =>
    bad_pass (h a b ha hb) (fun e => h1 (ptAt_inj hd hb ha e)) (fun e => h2 (ptAt_inj hd hb (next_lt ha) e))
  constructor
  · unfold nearB
    rw [hf i _ hi hi2 n2 n3, hf _ i hi1 hi (fun e => n1 e.symm) (fun e => n2 e.symm)]
    rfl
  · intro k hk
    unfold farB
    cases hx : nextB ps i k with
    | true => rfl
    | false =>
      unfold nextB at hx
      simp only [Bool.or_eq_false_iff, decide_eq_false_iff_not] at hx
      obtain ⟨x1, x2, x3⟩ := hx
      have hk1 := next_lt hk
      have y1 : (k + 1) % ps.length ≠ (i + 1) % ps.length := fun e => x1 (next_inj hk hi e)
      cases hm : meetB (ptAt ps i) (ptAt ps ((i + 1) % ps.length)) (ptAt ps k) (ptAt ps ((k + 1) % ps.length)) with
      | false => rfl
      | true =>
        rw [meetB_iff, hf i k hi hk x1 x2, hf i _ hi hk1 x3 y1, hf k i hk hi (fun e => x1 e.symm) (fun e => x3 e.symm), hf k _ hk hi1 (fun e => x2 e.symm) (fun e => y1 e.symm)] at hm
        simp only [Bool.false_eq_true, false_or] at hm
        exact absurd hm (bad_part (h i k hi hk))
theorem free_of_fine {ps : List Pt} (_hn : 3 ≤ ps.length) (h : fineP ps ps.length) : freeP ps := by
  intro i k hi hk
  have hi1 := next_lt hi
  have hk1 := next_lt hk
  cases hb : badB (ptAt ps i, ptAt ps ((i + 1) % ps.length)) (ptAt ps k, ptAt ps ((k + 1) % ps.length)) with
  | false => rfl
  | true =>
    exfalso
    have hfar : k ≠ i → k ≠ (i + 1) % ps.length → (k + 1) % ps.length ≠ i → meetB (ptAt ps i) (ptAt ps ((i + 1) % ps.length)) (ptAt ps k) (ptAt ps ((k + 1) % ps.length)) = false := fun x1 x2 x3 => by
      have := (h i hi).2 k hk
      unfold farB nextB at this
      rw [decide_eq_false x1, decide_eq_false x2, decide_eq_false x3] at this
      simpa using this
    unfold badB at hb
    rw [Bool.or_eq_true, Bool.and_eq_true] at hb
    rcases hb with hb | ⟨hb1, hb2⟩
    · obtain ⟨p1, p2, p3⟩ := (passB_iff _ _ _).1 hb
      dsimp only at p1 p2 p3
      have x1 : k ≠ i := fun e => p1 (by rw [e])
      have x2 : k ≠ (i + 1) % ps.length := fun e => p2 (by rw [e])
      by_cases x3 : (k + 1) % ps.length = i
      · have := (h k hk).1
        unfold nearB at this
        rw [x3, p3] at this
        simp at this
      · have := hfar x1 x2 x3
        rw [(meetB_iff _ _ _ _).2 (.inl p3)] at this
        cases this
    · dsimp only at hb1 hb2
      have x1 : k ≠ i := fun e => by
        subst e
        rw [partB_iff, turn_at_a, turn_at_b] at hb1
        omega
      have x2 : k ≠ (i + 1) % ps.length := fun e => by
        rw [partB_iff, e, turn_at_b] at hb1
        omega
      have x3 : (k + 1) % ps.length ≠ i := fun e => by
        rw [partB_iff, e, turn_at_a] at hb1
        omega
      have := hfar x1 x2 x3
      rw [(meetB_iff _ _ _ _).2 (.inr (.inr (.inr (.inr ⟨hb1, hb2⟩))))] at this
      cases this
theorem refP_iff (ps : List Pt) : refP ps ↔ validB ps = true := by
  rw [validB_iff]
  constructor
  · rintro ⟨h1, h2, h3⟩; exact ⟨h1, h2, free_of_fine h1.1 h3⟩
  · rintro ⟨h1, h2, h3⟩; exact ⟨h1, h2, fine_of_free h1.1 h2.2 h3⟩
/-- Both sides answer the same. -/
theorem refV_errV (ps : List Pt) : refV ps = errV ps := by
  unfold errV
  by_cases h : refP ps
  · rw [refV_yes h, if_pos ((refP_iff ps).1 h)]
  · rw [refV_no h, if_neg (fun e => h ((refP_iff ps).2 e))]
end Geo
end Go.Proofs.YtmjcdggmofohcaaGreat
