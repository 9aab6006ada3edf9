/- Sheets: the reference's Length. -/
import Derived.Test.YtgpmnkdagpcffaaArea
namespace Go.Proofs.Ytgpmnkdagpcffaa
open Go.RowKit
namespace Sh
def nthF (L : List FaS) (k : Nat) : FaS := L[k]?.getD (faOf (1, 1))
theorem nth_eq {L : List FaS} {k : Nat} (hk : k < L.length) : nthF L k = L[k] := by unfold nthF; rw [List.getElem?_eq_getElem hk]; rfl
theorem nth_val {L : List FaS} {k : Nat} (hk : k < L.length) : Geo.ptAt (vals L) k = (nthF L k).1 := by rw [vals_at hk, nth_eq hk]
end Sh
set_option maxRecDepth 100000 in
set_option maxHeartbeats 8000000 in
theorem Length4_any (s : Sheet) (a b : Geo.Pt) (A : Option Addr) (c : Nat) (w : World) (hl : s.cs.length ≤ 1000000000) (hg : Cts w w.heap.size A s.cs) :
    Calls Try.prog 51 #[.agg (shV s A c), .agg #[.int .i64 a.1, .int .i64 a.2], .agg #[.int .i64 b.1, .int .i64 b.2]] w (SpanEPost (Sh.lenLoE s a b) (Sh.lenHiE s a b) (Sh.lenE s a b) w) := by
  have HK : Hid (∀ W, Below w.heap.size w W → Calls Try.prog 87 #[.agg (shV s A c), .int .i64 0, .bool (Geo.ptB a && Geo.ptB b)] W (PrsEPost (Sh.knL s 0 (Geo.ptB a && Geo.ptB b)) (Sh.lenE s a b) W)) := fun W hW => by rw [Sh.lenE_kn]; exact known4_any s A c _ _ W hl ((hg.keep hW).wider hW.size)
  have HI1 : Hid (∀ W, Calls Try.prog 28 #[.agg #[.int .i64 a.1, .int .i64 a.2]] W fun e w' => e = .returned (.bool (Geo.ptB a)) ∧ Below W.heap.size W w') := fun W => IsPoint_any a.1 a.2 W
  have HI2 : Hid (∀ W, Calls Try.prog 28 #[.agg #[.int .i64 b.1, .int .i64 b.2]] W fun e w' => e = .returned (.bool (Geo.ptB b)) ∧ Below W.heap.size W w') := fun W => IsPoint_any b.1 b.2 W
  by_cases h0 : Sh.lenE s a b = 0
  · have h0' := h0
    rw [Sh.lenE_kn] at h0'
    obtain ⟨hok, -, hbb, hne, hsp⟩ := Sh.kn_ok h0' (.inl rfl)
    have hs := Sh.ok_of hok
    obtain ⟨hpa, hpb⟩ := Bool.and_eq_true_iff.1 hbb
    have hsq := Sh.pt_sq hpa hpb
    have hL : Sh.knL s 0 (Geo.ptB a && Geo.ptB b) = Sh.vals (Sh.truthsL s) := by unfold Sh.knL; rw [if_pos h0']
    have HST : Hid (∀ k (hk : k < (Sh.truthsL s).length), Sh.widLo (Sh.loK (Sh.sqN (b.1 - a.1) (b.2 - a.2)) Sh.sqD (Sh.truthsL s) k) (Sh.sqN (b.1 - a.1) (b.2 - a.2) (Sh.nthF (Sh.truthsL s) k)) (Sh.sqD (Sh.nthF (Sh.truthsL s) k)) (decide (k = 0)) = Sh.loK (Sh.sqN (b.1 - a.1) (b.2 - a.2)) Sh.sqD (Sh.truthsL s) (k + 1) ∧ Sh.widHi (Sh.hiK (Sh.sqN (b.1 - a.1) (b.2 - a.2)) Sh.sqD (Sh.truthsL s) k) (Sh.sqN (b.1 - a.1) (b.2 - a.2) (Sh.nthF (Sh.truthsL s) k)) (Sh.sqD (Sh.nthF (Sh.truthsL s) k)) (decide (k = 0)) = Sh.hiK (Sh.sqN (b.1 - a.1) (b.2 - a.2)) Sh.sqD (Sh.truthsL s) (k + 1)) := fun k hk => by
      rw [Sh.nth_eq hk]
      exact Sh.wid_step (Sh.sqN (b.1 - a.1) (b.2 - a.2)) Sh.sqD (Sh.truthsL s) (fun x => by have := Sh.sqN_bd hsq x; omega) (fun x => (Sh.sqD_bd x).1) hk
    have HSQ : Hid (∀ k, k < (Sh.truthsL s).length → ∀ W, Calls Try.prog 104 #[.agg #[.int .i64 a.1, .int .i64 a.2], .agg #[.int .i64 b.1, .int .i64 b.2], .agg #[.int .i64 (Geo.ptAt (Sh.vals (Sh.truthsL s)) k).1, .int .i64 (Geo.ptAt (Sh.vals (Sh.truthsL s)) k).2]] W fun e w' => e = .returned (.tuple #[.int .i64 (Sh.sqN (b.1 - a.1) (b.2 - a.2) (Sh.nthF (Sh.truthsL s) k)), .int .i64 (Sh.sqD (Sh.nthF (Sh.truthsL s) k))]) ∧ Below W.heap.size W w') := fun k hk W => by
      rw [Sh.nth_val hk]
      exact Square4_any _ a b W hsq
    have HND : Hid (∀ k, (0 ≤ Sh.sqN (b.1 - a.1) (b.2 - a.2) (Sh.nthF (Sh.truthsL s) k) ∧ Sh.sqN (b.1 - a.1) (b.2 - a.2) (Sh.nthF (Sh.truthsL s) k) ≤ 2000000000000000000) ∧ (1 ≤ Sh.sqD (Sh.nthF (Sh.truthsL s) k) ∧ Sh.sqD (Sh.nthF (Sh.truthsL s) k) ≤ 100000000000000)) := fun k => by
      have h1 := Sh.sqN_bd hsq (Sh.nthF (Sh.truthsL s) k)
      have h2 := Sh.sqD_bd (Sh.nthF (Sh.truthsL s) k)
      omega
    have HLO : Hid (Sh.loK (Sh.sqN (b.1 - a.1) (b.2 - a.2)) Sh.sqD (Sh.truthsL s) (Sh.truthsL s).length = Sh.lenLoE s a b ∧ Sh.hiK (Sh.sqN (b.1 - a.1) (b.2 - a.2)) Sh.sqD (Sh.truthsL s) (Sh.truthsL s).length = Sh.lenHiE s a b) := by
      unfold Hid Sh.lenLoE Sh.lenHiE
      rw [if_pos h0, if_pos h0]
      exact Sh.lo_end _ _ hne
    have hlen := Sh.truthsL_len s hs
    have HW0 : Hid (∀ l h n d first W, (0 ≤ n ∧ n ≤ 2000000000000000000) → (1 ≤ d ∧ d ≤ 100000000000000) → Calls Try.prog 102 #[.agg #[.int .i64 l, .int .i64 h], .int .i64 n, .int .i64 d, .bool first] W (SpanPost (Sh.widLo l n d first) (Sh.widHi h n d first) W)) := fun l h n d first W h1 h2 => wider4_any l h n d first W h1 h2
    rw [hL, h0, hbb] at HK
    rw [hpa] at HI1
    rw [hpb] at HI2
    rw [h0]
    have hvl : (Sh.truthsL s).length = (Sh.vals (Sh.truthsL s)).length := (Sh.vals_len _).symm
    obtain ⟨LO, hLO⟩ : ∃ LO : Nat → Int, LO = Sh.loK (Sh.sqN (b.1 - a.1) (b.2 - a.2)) Sh.sqD (Sh.truthsL s) := ⟨_, rfl⟩
    obtain ⟨HI, hHI⟩ : ∃ HI : Nat → Int, HI = Sh.hiK (Sh.sqN (b.1 - a.1) (b.2 - a.2)) Sh.sqD (Sh.truthsL s) := ⟨_, rfl⟩
    have hz1 : LO 0 = 0 := by rw [hLO]; rfl
    have hz2 : HI 0 = 0 := by rw [hHI]; rfl
    rw [← hLO, ← hHI] at HST HLO
    obtain ⟨NN, hNN⟩ : ∃ NN : Nat → Int, ∀ k, NN k = Sh.sqN (b.1 - a.1) (b.2 - a.2) (Sh.nthF (Sh.truthsL s) k) := ⟨_, fun _ => rfl⟩
    obtain ⟨DD, hDD⟩ : ∃ DD : Nat → Int, ∀ k, DD k = Sh.sqD (Sh.nthF (Sh.truthsL s) k) := ⟨_, fun _ => rfl⟩
    simp only [← hNN, ← hDD] at HST HSQ HND
    rw [hvl] at hlen HST HSQ HLO
    generalize Sh.vals (Sh.truthsL s) = P at *
    generalize Sh.lenLoE s a b = lo at *
    generalize Sh.lenHiE s a b = hi at *
    clear hg hl hok hs hne h0 h0' hL hvl hLO hHI hNN hDD hsp hsq hpa hpb hbb
    obtain ⟨a1, a2⟩ := a
    obtain ⟨b1, b2⟩ := b
    obtain ⟨al, ah, bl, bh, cs, wrn⟩ := s
    unfold shV at HK ⊢
    dsimp only at *
    go_enter Try.func51, Try.ntmps51
    go_wp2_with fail
    have hB1 : Below w.heap.size w ((((w.alloc (.cells #[.int .i64 al, .int .i64 ah, .int .i64 bl, .int .i64 bh, .slice A cs.length c, .int .i64 wrn] 26)).alloc (.cells #[.int .i64 a1, .int .i64 a2] 43)).alloc (.cells #[.int .i64 b1, .int .i64 b2] 43)).alloc (.cells #[.int .i64 0, .int .i64 0] 23)) := by (repeat' (first | (with_reducible exact Below.refl _ _) | (with_reducible assumption) | (with_reducible refine Below.alloc ?_ ?_ _) | (with_reducible refine Below.drew ?_) | (with_reducible refine Below.setCell ?_ ?_ _) | go_size | (exact (by simp)) | omega))
    have bS1 := (((BoxS.new w 26 #[.int .i64 al, .int .i64 ah, .int .i64 bl, .int .i64 bh, .slice A cs.length c, .int .i64 wrn]).alloc (.cells #[.int .i64 a1, .int .i64 a2] 43)).alloc (.cells #[.int .i64 b1, .int .i64 b2] 43)).alloc (.cells #[.int .i64 0, .int .i64 0] 23)
    have bA1 := ((BoxS.new (w.alloc (.cells #[.int .i64 al, .int .i64 ah, .int .i64 bl, .int .i64 bh, .slice A cs.length c, .int .i64 wrn] 26)) 43 #[.int .i64 a1, .int .i64 a2]).alloc (.cells #[.int .i64 b1, .int .i64 b2] 43)).alloc (.cells #[.int .i64 0, .int .i64 0] 23)
    have bB1 := (BoxS.new ((w.alloc (.cells #[.int .i64 al, .int .i64 ah, .int .i64 bl, .int .i64 bh, .slice A cs.length c, .int .i64 wrn] 26)).alloc (.cells #[.int .i64 a1, .int .i64 a2] 43)) 43 #[.int .i64 b1, .int .i64 b2]).alloc (.cells #[.int .i64 0, .int .i64 0] 23)
    have bR1 := BoxS.new (((w.alloc (.cells #[.int .i64 al, .int .i64 ah, .int .i64 bl, .int .i64 bh, .slice A cs.length c, .int .i64 wrn] 26)).alloc (.cells #[.int .i64 a1, .int .i64 a2] 43)).alloc (.cells #[.int .i64 b1, .int .i64 b2] 43)) 23 #[.int .i64 0, .int .i64 0]
    simp only [World.size_alloc] at bA1 bB1 bR1
    generalize World.alloc (World.alloc (World.alloc (World.alloc w _) _) _) _ = w1 at *
    refine (wpIn_wide (n := 4)).1 ?_
    have hmo : Try.prog.follows .mixedOrders = true := by kernel_rfl
    have q0 : Below w1.heap.size w1 w1.drew := (Below.refl _ _).drew
    have KC : Hid (∀ W', Below w1.heap.size w1 W' → ((W'.cell? ⟨w.heap.size, 0, none⟩ = some (.int .i64 al) ∧ W'.cell? ⟨w.heap.size, 1, none⟩ = some (.int .i64 ah) ∧ W'.cell? ⟨w.heap.size, 2, none⟩ = some (.int .i64 bl)) ∧ W'.cell? ⟨w.heap.size, 3, none⟩ = some (.int .i64 bh) ∧ W'.cell? ⟨w.heap.size, 4, none⟩ = some (.slice A cs.length c) ∧ W'.cell? ⟨w.heap.size, 5, none⟩ = some (.int .i64 wrn)) ∧ (W'.cell? ⟨w.heap.size + 1, 0, none⟩ = some (.int .i64 a1) ∧ W'.cell? ⟨w.heap.size + 1, 1, none⟩ = some (.int .i64 a2)) ∧ (W'.cell? ⟨w.heap.size + 1 + 1, 0, none⟩ = some (.int .i64 b1) ∧ W'.cell? ⟨w.heap.size + 1 + 1, 1, none⟩ = some (.int .i64 b2))) := fun W' h => ⟨boxS6 (bS1.below h), boxS2 (bA1.below h), boxS2 (bB1.below h)⟩
    have HK2 := Lib.hid (fun W (hW : Below w1.heap.size w1 W) => HK.out W (hB1.trans (hW.mono hB1.size)))
    refine wpIn_region_held (fun W' => Below w1.heap.size w1 W') 30 hmo ?_
    refine wpHeldIn_take (i := 0) (v := ?_) (plain_of (by kernel_rfl)) rfl (by kernel_rfl) (fun _ _ _ h => h) (yieldsSoIn_of (by kernel_rfl) ?_ (fun _ => rfl)) q0 ?_; rotate_left; focus (intro wq hw; have kq := KC.out wq hw; clear hw; go_simp; try (with_reducible rfl))
    refine wpHeldIn_take (i := 1) (v := ?_) (plain_of (by kernel_rfl)) rfl (by kernel_rfl) (fun _ _ _ h => h) (yieldsSoIn_of (by kernel_rfl) ?_ (fun _ => rfl)) q0 ?_; rotate_left; focus (intro wq hw; have kq := KC.out wq hw; clear hw; go_simp; try (with_reducible rfl))
    refine wpHeldIn_one (i := 2) (by kernel_rfl) (by kernel_rfl) rfl (by kernel_rfl) (fun K1 hK1 => ?_)
    go_simp
    refine ⟨trivial, (callsIn_wide.2 (HI1.out _)).mono ?_⟩
    rintro e2 w2 ⟨rfl, hb2⟩
    have q1 := q0.trans (hb2.mono q0.size)
    refine hK1 _ _ q1 ?_
    refine wpHeldIn_take (i := 3) (v := ?_) (plain_of (by kernel_rfl)) rfl (by kernel_rfl) (fun _ _ _ h => h) (yieldsSoIn_of (by kernel_rfl) ?_ (fun _ => rfl)) q1 ?_; rotate_left; focus (intro wq hw; clear hw; go_simp; try (with_reducible rfl))
    refine wpHeldIn_take (i := 4) (v := ?_) (plain_of (by kernel_rfl)) rfl (by kernel_rfl) (fun _ _ _ h => h) (yieldsSoIn_of (by kernel_rfl) ?_ (fun _ => rfl)) q1 ?_; rotate_left; focus (intro wq hw; have kq := KC.out wq hw; clear hw; go_simp; try (with_reducible rfl))
    refine wpHeldIn_one (i := 5) (by kernel_rfl) (by kernel_rfl) rfl (by kernel_rfl) (fun K2 hK2 => ?_)
    go_simp
    refine ⟨trivial, (callsIn_wide.2 (HI2.out _)).mono ?_⟩
    rintro e3 w3 ⟨rfl, hb3⟩
    have q2 := q1.trans (hb3.mono q1.size)
    refine hK2 _ _ q2 ?_
    refine wpHeldIn_take (i := 6) (v := ?_) (plain_of (by kernel_rfl)) rfl (by kernel_rfl) (fun _ _ _ h => h) (yieldsSoIn_of (by kernel_rfl) ?_ (fun _ => rfl)) q2 ?_; rotate_left; focus (intro wq hw; clear hw; go_simp; try (with_reducible rfl))
    refine wpHeldIn_one (i := 7) (by kernel_rfl) (by kernel_rfl) rfl (by kernel_rfl) (fun K3 hK3 => ?_)
    go_simp
    refine ⟨trivial, (callsIn_wide.2 (HK2.out _ q2)).mono ?_⟩
    rintro e5 w5 ⟨A5, c5, rfl, hP5, hb5⟩
    have q3 := q2.trans (hb5.mono q2.size)
    refine hK3 _ _ q3 ?_
    refine wpHeldIn_take (i := 8) (v := ?_) (plain_of (by kernel_rfl)) rfl (by kernel_rfl) (fun _ _ _ h => h) (yieldsSoIn_of (by kernel_rfl) ?_ (fun _ => rfl)) q3 ?_; rotate_left; focus (intro wq hw; clear hw; go_simp; try (with_reducible rfl))
    refine wpHeldIn_take (i := 9) (v := ?_) (plain_of (by kernel_rfl)) rfl (by kernel_rfl) (fun _ _ _ h => h) (yieldsSoIn_of (by kernel_rfl) ?_ (fun _ => rfl)) q3 ?_; rotate_left; focus (intro wq hw; clear hw; go_simp; try (with_reducible rfl))
    refine wpHeldIn_take (i := 10) (v := ?_) (plain_of (by kernel_rfl)) rfl (by kernel_rfl) (fun _ _ _ h => h) (yieldsSoIn_of (by kernel_rfl) ?_ (fun _ => rfl)) q3 ?_; rotate_left; focus (intro wq hw; clear hw; go_simp; try (with_reducible rfl))
    refine wpHeldIn_take (i := 11) (v := ?_) (plain_of (by kernel_rfl)) rfl (by kernel_rfl) (fun _ _ _ h => h) (yieldsSoIn_of (by kernel_rfl) ?_ (fun _ => rfl)) q3 ?_; rotate_left; focus (intro wq hw; clear hw; go_simp; try (with_reducible rfl))
    refine wpHeldIn_take (i := 12) (v := ?_) (plain_of (by kernel_rfl)) rfl (by kernel_rfl) (fun _ _ _ h => h) (yieldsSoIn_of (by kernel_rfl) ?_ (fun _ => rfl)) q3 ?_; rotate_left; focus (intro wq hw; clear hw; go_simp; try (with_reducible rfl))
    refine wpHeldIn_done (by kernel_rfl) ?_ _
    go_simp
    have hB5 := hB1.trans (q3.mono hB1.size)
    have bR5 := bR1.below q3
    have bA5 := bA1.below q3
    have bB5 := bB1.below q3
    clear hb2 hb5 q3 KC q0 q1 q2 HK2 HK bS1 bA1 bB1 bR1 hB1
    go_wp2_with fail
    have bO5 := BoxS.new w5 23 #[.int .i64 0, .int .i64 0]
    have hbx : Below w5.heap.size w5 (w5.alloc (.cells #[.int .i64 0, .int .i64 0] 23)) := (Below.refl _ _).alloc (Nat.le_refl _) _
    have bR6 := bR5.below hbx
    have bA6 := bA5.below hbx
    have bB6 := bB5.below hbx
    have hB6 := hB5.trans (hbx.mono hB5.size)
    obtain ⟨BO, hBO⟩ : ∃ B, B = w5.heap.size := ⟨_, rfl⟩
    have hP6 : Hid (Prs (w5.alloc (.cells #[.int .i64 0, .int .i64 0] 23)) BO A5 P) := by rw [hBO]; exact hP5.out.keep hbx
    have k1 : w.heap.size + 1 + 1 + 1 < BO := by have := bR5.lt; omega
    rw [← hBO] at bO5 ⊢
    clear hP5 bR5 bA5 bB5 hB5 hbx hBO
    generalize World.alloc w5 _ = w6 at *
    go_loopg [11] P.length (fun g x9 wx => ∃ k : Nat, Hid (k + g = P.length) ∧ (k : Int) ≤ P.length ∧ x9 = .int .i64 k ∧ Below w.heap.size w wx ∧ Below BO w6 wx ∧ BoxS wx BO 23 #[.int .i64 (LO k), .int .i64 (HI k)])
    case atStart => exact ⟨0, by simp [Hid], by omega, rfl, hB6, Below.refl _ _, by rw [hz1, hz2]; exact bO5⟩
    case round =>
      obtain ⟨k, hk, hk1, rfl, hB, hbb, bO⟩ := hrel
      have hk0 := Int.natCast_nonneg k
      by_cases hlt : (k : Int) < P.length
      · clear hB6 bO5
        have hkn : k < P.length := by omega
        have hPk : P[k]? = some (Geo.ptAt P k) := by unfold Geo.ptAt; rw [List.getElem?_eq_getElem hkn]; rfl
        obtain ⟨bp, op, rfl, hbp, hcp⟩ := hP6.out (by omega)
        obtain ⟨h0, h1⟩ := hcp k _ hPk
        have lO := bO.lt
        have HCC : Hid (∀ W', Below wr.heap.size wr W' → (W'.cell? ⟨bp, op + k * 2, none⟩ = some (.int .i64 (Geo.ptAt P k).1) ∧ W'.cell? ⟨bp, op + k * 2 + 1, none⟩ = some (.int .i64 (Geo.ptAt P k).2)) ∧ (W'.cell? ⟨w.heap.size + 1, 0, none⟩ = some (.int .i64 a1) ∧ W'.cell? ⟨w.heap.size + 1, 1, none⟩ = some (.int .i64 a2)) ∧ (W'.cell? ⟨w.heap.size + 1 + 1, 0, none⟩ = some (.int .i64 b1) ∧ W'.cell? ⟨w.heap.size + 1 + 1, 1, none⟩ = some (.int .i64 b2))) := fun W' hW => by
          have hBW := hbb.trans (hW.mono (by omega))
          have bA : BoxS W' (w.heap.size + 1) 43 #[.int .i64 a1, .int .i64 a2] := (hBW.block _ (by omega)).trans bA6
          have bB : BoxS W' (w.heap.size + 1 + 1) 43 #[.int .i64 b1, .int .i64 b2] := (hBW.block _ (by omega)).trans bB6
          exact ⟨⟨(hBW.cell (p := ⟨bp, _, none⟩) hbp).trans h0, (hBW.cell (p := ⟨bp, _, none⟩) hbp).trans h1⟩, boxS2 bA, boxS2 bB⟩
        obtain ⟨st1, st2⟩ := HST.out k hkn
        obtain ⟨nd1, nd2⟩ := HND.out k
        have HS1 := Lib.hid (HSQ.out k hkn)
        have hw1 : IntKind.i64.wrap ((k : Int) + 1) = (k : Int) + 1 := IntWalk.i64_in _ (by omega)
        have e0 : ((k : Int) == 0) = decide (k = 0) := by by_cases h : k = 0 <;> simp [h]
        clear h0 h1 hcp hPk
        generalize decide (k = 0) = fst at *
        generalize Geo.ptAt P k = q at *
        obtain ⟨q1, q2⟩ := q
        dsimp only at HCC HS1
        have HW1 : Hid (∀ W, Calls Try.prog 102 #[.agg #[.int .i64 (LO k), .int .i64 (HI k)], .int .i64 (NN k), .int .i64 (DD k), .bool fst] W (SpanPost (LO (k + 1)) (HI (k + 1)) W)) := fun W => by
          rw [← st1, ← st2]
          exact HW0.out _ _ _ _ fst W nd1 nd2
        clear st1 st2 nd1 nd2
        go_wp2_with fail
        refine (wpIn_wide (n := 4)).1 ?_
        have hmo : Try.prog.follows .mixedOrders = true := by kernel_rfl
        have q0 : Below wr.heap.size wr wr.drew := (Below.refl _ _).drew
        refine wpIn_region_held (fun W' => Below wr.heap.size wr W') 30 hmo ?_
        refine wpHeldIn_take (i := 0) (v := ?_) (plain_of (by kernel_rfl)) rfl (by kernel_rfl) (fun _ _ _ h => h) (yieldsSoIn_of (by kernel_rfl) ?_ (fun _ => rfl)) q0 ?_; rotate_left; focus (intro wq hw; have kq := HCC.out wq hw; clear hw; go_simp; try (with_reducible rfl))
        refine wpHeldIn_take (i := 1) (v := ?_) (plain_of (by kernel_rfl)) rfl (by kernel_rfl) (fun _ _ _ h => h) (yieldsSoIn_of (by kernel_rfl) ?_ (fun _ => rfl)) q0 ?_; rotate_left; focus (intro wq hw; have kq := HCC.out wq hw; clear hw; go_simp; try (with_reducible rfl))
        refine wpHeldIn_take (i := 2) (v := ?_) (plain_of (by kernel_rfl)) rfl (by kernel_rfl) (fun _ _ _ h => h) (yieldsSoIn_of (by kernel_rfl) ?_ (fun _ => rfl)) q0 ?_; rotate_left; focus (intro wq hw; clear hw; go_simp; try (with_reducible rfl))
        refine wpHeldIn_take (i := 3) (v := ?_) (plain_of (by kernel_rfl)) rfl (by kernel_rfl) (fun _ _ _ h => h) (yieldsSoIn_of (by kernel_rfl) ?_ (fun _ => rfl)) q0 ?_; rotate_left; focus (intro wq hw; clear hw; go_simp; try (with_reducible rfl))
        refine wpHeldIn_take (i := 4) (v := ?_) (plain_of (by kernel_rfl)) rfl (by kernel_rfl) (fun _ _ _ h => h) (yieldsSoIn_of (by kernel_rfl) ?_ (fun _ => rfl)) q0 ?_; rotate_left; focus (intro wq hw; clear hw; go_simp; try (with_reducible rfl))
        refine wpHeldIn_take (i := 5) (v := ?_) (plain_of (by kernel_rfl)) rfl (by kernel_rfl) (fun _ _ _ h => h) (yieldsSoIn_of (by kernel_rfl) ?_ (fun _ => rfl)) q0 ?_; rotate_left; focus (intro wq hw; have kq := HCC.out wq hw; clear hw; go_simp; try (with_reducible rfl))
        refine wpHeldIn_one (i := 6) (by kernel_rfl) (by kernel_rfl) rfl (by kernel_rfl) (fun K1 hK1 => ?_)
        go_simp
        refine ⟨trivial, (callsIn_wide.2 (HS1.out _)).mono ?_⟩
        rintro e7 w7 ⟨rfl, hb7⟩
        have q1' := q0.trans (hb7.mono q0.size)
        refine hK1 _ _ q1' ?_
        refine wpHeldIn_take (i := 7) (v := ?_) (plain_of (by kernel_rfl)) rfl (by kernel_rfl) (fun _ _ _ h => h) (yieldsSoIn_of (by kernel_rfl) ?_ (fun _ => rfl)) q1' ?_; rotate_left; focus (intro wq hw; clear hw; go_simp; try (with_reducible rfl))
        refine wpHeldIn_take (i := 8) (v := ?_) (plain_of (by kernel_rfl)) rfl (by kernel_rfl) (fun _ _ _ h => h) (yieldsSoIn_of (by kernel_rfl) ?_ (fun _ => rfl)) q1' ?_; rotate_left; focus (intro wq hw; clear hw; go_simp; try (with_reducible rfl))
        refine wpHeldIn_take (i := 9) (v := ?_) (plain_of (by kernel_rfl)) rfl (by kernel_rfl) (fun _ _ _ h => h) (yieldsSoIn_of (by kernel_rfl) ?_ (fun _ => rfl)) q1' ?_; rotate_left; focus (intro wq hw; clear hw; go_simp; try (with_reducible rfl))
        refine wpHeldIn_take (i := 10) (v := ?_) (plain_of (by kernel_rfl)) rfl (by kernel_rfl) (fun _ _ _ h => h) (yieldsSoIn_of (by kernel_rfl) ?_ (fun _ => rfl)) q1' ?_; rotate_left; focus (intro wq hw; clear hw; go_simp; try (with_reducible rfl))
        refine wpHeldIn_take (i := 11) (v := ?_) (plain_of (by kernel_rfl)) rfl (by kernel_rfl) (fun _ _ _ h => h) (yieldsSoIn_of (by kernel_rfl) ?_ (fun _ => rfl)) q1' ?_; rotate_left; focus (intro wq hw; clear hw; go_simp; try (with_reducible rfl))
        refine wpHeldIn_done (by kernel_rfl) ?_ _
        go_simp
        have bO7 := bO.below q1'
        have hB7 := hB.trans (q1'.mono hB.size)
        have hbb7 := hbb.trans (q1'.mono (by omega))
        clear q0 q1' hb7 HCC HS1 bO hB hbb lO
        obtain ⟨o0, o1⟩ := boxS2 bO7
        go_wp2_with fail
        try rw [e0]
        refine (HW1.out _).mono ?_
        rintro e8 w8 ⟨rfl, hb8⟩
        have bO8 := bO7.below hb8
        have hB8 := hB7.trans (hb8.mono hB7.size)
        have hbb8 := hbb7.trans (hb8.mono (by have := bO7.lt; omega))
        have lO8 := bO8.lt
        clear o0 o1 bO7 hB7 hbb7 hb8 HW1
        obtain ⟨o0, o1⟩ := boxS2 bO8
        have g0 := bO8.frozen 0
        have g1 := bO8.frozen 1
        go_wp2_with fail
        have bO9 : BoxS ((w8.setCell ⟨BO, 0, none⟩ (.int .i64 (LO (k + 1)))).setCell ⟨BO, 1, none⟩ (.int .i64 (HI (k + 1)))) BO 23 #[.int .i64 (LO (k + 1)), .int .i64 (HI (k + 1))] := (two_put (two_put bO8 _).1 _).2
        have hB9 : Below w.heap.size w ((w8.setCell ⟨BO, 0, none⟩ (.int .i64 (LO (k + 1)))).setCell ⟨BO, 1, none⟩ (.int .i64 (HI (k + 1)))) := Below.setCell (Below.setCell hB8 (by simp; omega) _) (by simp; omega) _
        have hbb9 : Below BO w6 ((w8.setCell ⟨BO, 0, none⟩ (.int .i64 (LO (k + 1)))).setCell ⟨BO, 1, none⟩ (.int .i64 (HI (k + 1)))) := Below.setCell (Below.setCell hbb8 (by simp) _) (by simp) _
        obtain ⟨g', hg'⟩ : ∃ g', gk = g' + 1 := ⟨gk - 1, by have := hk.out; omega⟩
        go_roundg g'
        case measure => omega
        case rel => exact ⟨k + 1, by have := hk.out; simp only [Hid]; omega, by omega, by go_num, by first | exact hB9 | exact hB9.drew, by first | exact hbb9 | exact hbb9.drew, bO9⟩
      · obtain rfl : k = P.length := by omega
        rw [HLO.out.1, HLO.out.2] at bO
        have bR := (show BoxS wr (w.heap.size + 1 + 1 + 1) 23 #[.int .i64 0, .int .i64 0] from (hbb.block _ (by omega)).trans bR6)
        have lR := bR.lt
        obtain ⟨o0, o1⟩ := boxS2 bO
        obtain ⟨r0, r1⟩ := boxS2 bR
        have g0 := bR.frozen 0
        have g1 := bR.frozen 1
        go_wp2_with fail
        have bRz := (two_put (two_put bR (.int .i64 lo)).1 (.int .i64 hi)).2
        have hBz : Below w.heap.size w ((wr.setCell ⟨w.heap.size + 1 + 1 + 1, 0, none⟩ (.int .i64 lo)).setCell ⟨w.heap.size + 1 + 1 + 1, 1, none⟩ (.int .i64 hi)) := by (repeat' (first | (with_reducible exact Below.refl _ _) | (with_reducible assumption) | (with_reducible refine Below.alloc ?_ ?_ _) | (with_reducible refine Below.drew ?_) | (with_reducible refine Below.setCell ?_ ?_ _) | go_size | (exact (by simp)) | omega))
        clear o0 o1 r0 r1 g0 g1
        generalize World.setCell (World.setCell wr _ _) _ _ = wz at *
        obtain ⟨r0, r1⟩ := boxS2 bRz
        exact bodyPost_ret (v := .tuple #[.agg #[.int .i64 lo, .int .i64 hi], .int .i64 0]) (by simp [results, Try.results51, go_sem, r0, r1]) rfl ⟨rfl, hBz⟩
  · have hne : (Sh.lenE s a b != 0) = true := by simpa using h0
    have hL : Sh.knL s 0 (Geo.ptB a && Geo.ptB b) = [] := Sh.kn_of (Sh.lenE_kn s a b).symm h0
    unfold Sh.lenLoE Sh.lenHiE
    rw [if_neg h0, if_neg h0]
    rw [hL] at HK
    generalize Sh.lenE s a b = E at *
    generalize Geo.ptB a = ba at *
    generalize Geo.ptB b = bb at *
    clear hg hl h0 hL
    obtain ⟨a1, a2⟩ := a
    obtain ⟨b1, b2⟩ := b
    obtain ⟨al, ah, bl, bh, cs, wrn⟩ := s
    unfold shV at HK ⊢
    dsimp only at *
    cases ba with
    | true =>
      rw [Bool.true_and] at HK
      go_enter Try.func51, Try.ntmps51
      go_wp2_with fail
      have hB1 : Below w.heap.size w ((((w.alloc (.cells #[.int .i64 al, .int .i64 ah, .int .i64 bl, .int .i64 bh, .slice A cs.length c, .int .i64 wrn] 26)).alloc (.cells #[.int .i64 a1, .int .i64 a2] 43)).alloc (.cells #[.int .i64 b1, .int .i64 b2] 43)).alloc (.cells #[.int .i64 0, .int .i64 0] 23)) := by (repeat' (first | (with_reducible exact Below.refl _ _) | (with_reducible assumption) | (with_reducible refine Below.alloc ?_ ?_ _) | (with_reducible refine Below.drew ?_) | (with_reducible refine Below.setCell ?_ ?_ _) | go_size | (exact (by simp)) | omega))
      have bS1 := (((BoxS.new w 26 #[.int .i64 al, .int .i64 ah, .int .i64 bl, .int .i64 bh, .slice A cs.length c, .int .i64 wrn]).alloc (.cells #[.int .i64 a1, .int .i64 a2] 43)).alloc (.cells #[.int .i64 b1, .int .i64 b2] 43)).alloc (.cells #[.int .i64 0, .int .i64 0] 23)
      have bA1 := ((BoxS.new (w.alloc (.cells #[.int .i64 al, .int .i64 ah, .int .i64 bl, .int .i64 bh, .slice A cs.length c, .int .i64 wrn] 26)) 43 #[.int .i64 a1, .int .i64 a2]).alloc (.cells #[.int .i64 b1, .int .i64 b2] 43)).alloc (.cells #[.int .i64 0, .int .i64 0] 23)
      have bB1 := (BoxS.new ((w.alloc (.cells #[.int .i64 al, .int .i64 ah, .int .i64 bl, .int .i64 bh, .slice A cs.length c, .int .i64 wrn] 26)).alloc (.cells #[.int .i64 a1, .int .i64 a2] 43)) 43 #[.int .i64 b1, .int .i64 b2]).alloc (.cells #[.int .i64 0, .int .i64 0] 23)
      have bR1 := BoxS.new (((w.alloc (.cells #[.int .i64 al, .int .i64 ah, .int .i64 bl, .int .i64 bh, .slice A cs.length c, .int .i64 wrn] 26)).alloc (.cells #[.int .i64 a1, .int .i64 a2] 43)).alloc (.cells #[.int .i64 b1, .int .i64 b2] 43)) 23 #[.int .i64 0, .int .i64 0]
      simp only [World.size_alloc] at bA1 bB1 bR1
      generalize World.alloc (World.alloc (World.alloc (World.alloc w _) _) _) _ = w1 at *
      refine (wpIn_wide (n := 4)).1 ?_
      have hmo : Try.prog.follows .mixedOrders = true := by kernel_rfl
      have q0 : Below w1.heap.size w1 w1.drew := (Below.refl _ _).drew
      have KC : Hid (∀ W', Below w1.heap.size w1 W' → ((W'.cell? ⟨w.heap.size, 0, none⟩ = some (.int .i64 al) ∧ W'.cell? ⟨w.heap.size, 1, none⟩ = some (.int .i64 ah) ∧ W'.cell? ⟨w.heap.size, 2, none⟩ = some (.int .i64 bl)) ∧ W'.cell? ⟨w.heap.size, 3, none⟩ = some (.int .i64 bh) ∧ W'.cell? ⟨w.heap.size, 4, none⟩ = some (.slice A cs.length c) ∧ W'.cell? ⟨w.heap.size, 5, none⟩ = some (.int .i64 wrn)) ∧ (W'.cell? ⟨w.heap.size + 1, 0, none⟩ = some (.int .i64 a1) ∧ W'.cell? ⟨w.heap.size + 1, 1, none⟩ = some (.int .i64 a2)) ∧ (W'.cell? ⟨w.heap.size + 1 + 1, 0, none⟩ = some (.int .i64 b1) ∧ W'.cell? ⟨w.heap.size + 1 + 1, 1, none⟩ = some (.int .i64 b2))) := fun W' h => ⟨boxS6 (bS1.below h), boxS2 (bA1.below h), boxS2 (bB1.below h)⟩
      have HK2 := Lib.hid (fun W (hW : Below w1.heap.size w1 W) => HK.out W (hB1.trans (hW.mono hB1.size)))
      refine wpIn_region_held (fun W' => Below w1.heap.size w1 W') 30 hmo ?_
      refine wpHeldIn_take (i := 0) (v := ?_) (plain_of (by kernel_rfl)) rfl (by kernel_rfl) (fun _ _ _ h => h) (yieldsSoIn_of (by kernel_rfl) ?_ (fun _ => rfl)) q0 ?_; rotate_left; focus (intro wq hw; have kq := KC.out wq hw; clear hw; go_simp; try (with_reducible rfl))
      refine wpHeldIn_take (i := 1) (v := ?_) (plain_of (by kernel_rfl)) rfl (by kernel_rfl) (fun _ _ _ h => h) (yieldsSoIn_of (by kernel_rfl) ?_ (fun _ => rfl)) q0 ?_; rotate_left; focus (intro wq hw; have kq := KC.out wq hw; clear hw; go_simp; try (with_reducible rfl))
      refine wpHeldIn_one (i := 2) (by kernel_rfl) (by kernel_rfl) rfl (by kernel_rfl) (fun K1 hK1 => ?_)
      go_simp
      refine ⟨trivial, (callsIn_wide.2 (HI1.out _)).mono ?_⟩
      rintro e2 w2 ⟨rfl, hb2⟩
      have q1 := q0.trans (hb2.mono q0.size)
      refine hK1 _ _ q1 ?_
      refine wpHeldIn_take (i := 3) (v := ?_) (plain_of (by kernel_rfl)) rfl (by kernel_rfl) (fun _ _ _ h => h) (yieldsSoIn_of (by kernel_rfl) ?_ (fun _ => rfl)) q1 ?_; rotate_left; focus (intro wq hw; clear hw; go_simp; try (with_reducible rfl))
      refine wpHeldIn_take (i := 4) (v := ?_) (plain_of (by kernel_rfl)) rfl (by kernel_rfl) (fun _ _ _ h => h) (yieldsSoIn_of (by kernel_rfl) ?_ (fun _ => rfl)) q1 ?_; rotate_left; focus (intro wq hw; have kq := KC.out wq hw; clear hw; go_simp; try (with_reducible rfl))
      refine wpHeldIn_one (i := 5) (by kernel_rfl) (by kernel_rfl) rfl (by kernel_rfl) (fun K2 hK2 => ?_)
      go_simp
      refine ⟨trivial, (callsIn_wide.2 (HI2.out _)).mono ?_⟩
      rintro e3 w3 ⟨rfl, hb3⟩
      have q2 := q1.trans (hb3.mono q1.size)
      refine hK2 _ _ q2 ?_
      refine wpHeldIn_take (i := 6) (v := ?_) (plain_of (by kernel_rfl)) rfl (by kernel_rfl) (fun _ _ _ h => h) (yieldsSoIn_of (by kernel_rfl) ?_ (fun _ => rfl)) q2 ?_; rotate_left; focus (intro wq hw; clear hw; go_simp; try (with_reducible rfl))
      refine wpHeldIn_one (i := 7) (by kernel_rfl) (by kernel_rfl) rfl (by kernel_rfl) (fun K3 hK3 => ?_)
      go_simp
      refine ⟨trivial, (callsIn_wide.2 (HK2.out _ q2)).mono ?_⟩
      rintro e5 w5 ⟨A5, c5, rfl, hP5, hb5⟩
      have q3 := q2.trans (hb5.mono q2.size)
      refine hK3 _ _ q3 ?_
      refine wpHeldIn_take (i := 8) (v := ?_) (plain_of (by kernel_rfl)) rfl (by kernel_rfl) (fun _ _ _ h => h) (yieldsSoIn_of (by kernel_rfl) ?_ (fun _ => rfl)) q3 ?_; rotate_left; focus (intro wq hw; clear hw; go_simp; try (with_reducible rfl))
      refine wpHeldIn_take (i := 9) (v := ?_) (plain_of (by kernel_rfl)) rfl (by kernel_rfl) (fun _ _ _ h => h) (yieldsSoIn_of (by kernel_rfl) ?_ (fun _ => rfl)) q3 ?_; rotate_left; focus (intro wq hw; clear hw; go_simp; try (with_reducible rfl))
      refine wpHeldIn_take (i := 10) (v := ?_) (plain_of (by kernel_rfl)) rfl (by kernel_rfl) (fun _ _ _ h => h) (yieldsSoIn_of (by kernel_rfl) ?_ (fun _ => rfl)) q3 ?_; rotate_left; focus (intro wq hw; clear hw; go_simp; try (with_reducible rfl))
      refine wpHeldIn_take (i := 11) (v := ?_) (plain_of (by kernel_rfl)) rfl (by kernel_rfl) (fun _ _ _ h => h) (yieldsSoIn_of (by kernel_rfl) ?_ (fun _ => rfl)) q3 ?_; rotate_left; focus (intro wq hw; clear hw; go_simp; try (with_reducible rfl))
      refine wpHeldIn_take (i := 12) (v := ?_) (plain_of (by kernel_rfl)) rfl (by kernel_rfl) (fun _ _ _ h => h) (yieldsSoIn_of (by kernel_rfl) ?_ (fun _ => rfl)) q3 ?_; rotate_left; focus (intro wq hw; clear hw; go_simp; try (with_reducible rfl))
      refine wpHeldIn_done (by kernel_rfl) ?_ _
      go_simp
      have hB5 := hB1.trans (q3.mono hB1.size)
      have bR5 := bR1.below q3
      have bA5 := bA1.below q3
      have bB5 := bB1.below q3
      clear hb2 hb5 q3 KC q0 q1 q2 HK2 HK bS1 bA1 bB1 bR1 hB1
      go_wp2_with fail
      have bO5 := BoxS.new w5 23 #[.int .i64 0, .int .i64 0]
      have hbx : Below w5.heap.size w5 (w5.alloc (.cells #[.int .i64 0, .int .i64 0] 23)) := (Below.refl _ _).alloc (Nat.le_refl _) _
      have bR6 := bR5.below hbx
      have hB6 := hB5.trans (hbx.mono hB5.size)
      obtain ⟨BO, hBO⟩ : ∃ B, B = w5.heap.size := ⟨_, rfl⟩
      have k1 : w.heap.size + 1 + 1 + 1 < BO := by have := bR5.lt; omega
      rw [← hBO] at bO5 ⊢
      clear hP5 bR5 bA5 bB5 hB5 hbx hBO
      generalize World.alloc w5 _ = w6 at *
      go_loopg [11] 0 (fun g x9 wx => x9 = .int .i64 0 ∧ wx = w6)
      case atStart => exact ⟨rfl, rfl⟩
      case round =>
        obtain ⟨rfl, rfl⟩ := hrel
        have bO := bO5
        have bR := bR6
        have hB := hB6
        have lR := bR.lt
        obtain ⟨o0, o1⟩ := boxS2 bO
        obtain ⟨r0, r1⟩ := boxS2 bR
        have g0 := bR.frozen 0
        have g1 := bR.frozen 1
        go_wp2_with fail
        have bRz := (two_put (two_put bR (.int .i64 0)).1 (.int .i64 0)).2
        have hBz : Below w.heap.size w ((wr.setCell ⟨w.heap.size + 1 + 1 + 1, 0, none⟩ (.int .i64 0)).setCell ⟨w.heap.size + 1 + 1 + 1, 1, none⟩ (.int .i64 0)) := by (repeat' (first | (with_reducible exact Below.refl _ _) | (with_reducible assumption) | (with_reducible refine Below.alloc ?_ ?_ _) | (with_reducible refine Below.drew ?_) | (with_reducible refine Below.setCell ?_ ?_ _) | go_size | (exact (by simp)) | omega))
        clear o0 o1 r0 r1 g0 g1
        generalize World.setCell (World.setCell wr _ _) _ _ = wz at *
        obtain ⟨r0, r1⟩ := boxS2 bRz
        exact bodyPost_ret (v := .tuple #[.agg #[.int .i64 0, .int .i64 0], .int .i64 E]) (by simp [results, Try.results51, go_sem, r0, r1]) rfl ⟨rfl, hBz⟩
    | false =>
      rw [Bool.false_and] at HK
      go_enter Try.func51, Try.ntmps51
      go_wp2_with fail
      have hB1 : Below w.heap.size w ((((w.alloc (.cells #[.int .i64 al, .int .i64 ah, .int .i64 bl, .int .i64 bh, .slice A cs.length c, .int .i64 wrn] 26)).alloc (.cells #[.int .i64 a1, .int .i64 a2] 43)).alloc (.cells #[.int .i64 b1, .int .i64 b2] 43)).alloc (.cells #[.int .i64 0, .int .i64 0] 23)) := by (repeat' (first | (with_reducible exact Below.refl _ _) | (with_reducible assumption) | (with_reducible refine Below.alloc ?_ ?_ _) | (with_reducible refine Below.drew ?_) | (with_reducible refine Below.setCell ?_ ?_ _) | go_size | (exact (by simp)) | omega))
      have bS1 := (((BoxS.new w 26 #[.int .i64 al, .int .i64 ah, .int .i64 bl, .int .i64 bh, .slice A cs.length c, .int .i64 wrn]).alloc (.cells #[.int .i64 a1, .int .i64 a2] 43)).alloc (.cells #[.int .i64 b1, .int .i64 b2] 43)).alloc (.cells #[.int .i64 0, .int .i64 0] 23)
      have bA1 := ((BoxS.new (w.alloc (.cells #[.int .i64 al, .int .i64 ah, .int .i64 bl, .int .i64 bh, .slice A cs.length c, .int .i64 wrn] 26)) 43 #[.int .i64 a1, .int .i64 a2]).alloc (.cells #[.int .i64 b1, .int .i64 b2] 43)).alloc (.cells #[.int .i64 0, .int .i64 0] 23)
      have bB1 := (BoxS.new ((w.alloc (.cells #[.int .i64 al, .int .i64 ah, .int .i64 bl, .int .i64 bh, .slice A cs.length c, .int .i64 wrn] 26)).alloc (.cells #[.int .i64 a1, .int .i64 a2] 43)) 43 #[.int .i64 b1, .int .i64 b2]).alloc (.cells #[.int .i64 0, .int .i64 0] 23)
      have bR1 := BoxS.new (((w.alloc (.cells #[.int .i64 al, .int .i64 ah, .int .i64 bl, .int .i64 bh, .slice A cs.length c, .int .i64 wrn] 26)).alloc (.cells #[.int .i64 a1, .int .i64 a2] 43)).alloc (.cells #[.int .i64 b1, .int .i64 b2] 43)) 23 #[.int .i64 0, .int .i64 0]
      simp only [World.size_alloc] at bA1 bB1 bR1
      generalize World.alloc (World.alloc (World.alloc (World.alloc w _) _) _) _ = w1 at *
      refine (wpIn_wide (n := 4)).1 ?_
      have hmo : Try.prog.follows .mixedOrders = true := by kernel_rfl
      have q0 : Below w1.heap.size w1 w1.drew := (Below.refl _ _).drew
      have KC : Hid (∀ W', Below w1.heap.size w1 W' → ((W'.cell? ⟨w.heap.size, 0, none⟩ = some (.int .i64 al) ∧ W'.cell? ⟨w.heap.size, 1, none⟩ = some (.int .i64 ah) ∧ W'.cell? ⟨w.heap.size, 2, none⟩ = some (.int .i64 bl)) ∧ W'.cell? ⟨w.heap.size, 3, none⟩ = some (.int .i64 bh) ∧ W'.cell? ⟨w.heap.size, 4, none⟩ = some (.slice A cs.length c) ∧ W'.cell? ⟨w.heap.size, 5, none⟩ = some (.int .i64 wrn)) ∧ (W'.cell? ⟨w.heap.size + 1, 0, none⟩ = some (.int .i64 a1) ∧ W'.cell? ⟨w.heap.size + 1, 1, none⟩ = some (.int .i64 a2)) ∧ (W'.cell? ⟨w.heap.size + 1 + 1, 0, none⟩ = some (.int .i64 b1) ∧ W'.cell? ⟨w.heap.size + 1 + 1, 1, none⟩ = some (.int .i64 b2))) := fun W' h => ⟨boxS6 (bS1.below h), boxS2 (bA1.below h), boxS2 (bB1.below h)⟩
      have HK2 := Lib.hid (fun W (hW : Below w1.heap.size w1 W) => HK.out W (hB1.trans (hW.mono hB1.size)))
      refine wpIn_region_held (fun W' => Below w1.heap.size w1 W') 30 hmo ?_
      refine wpHeldIn_take (i := 0) (v := ?_) (plain_of (by kernel_rfl)) rfl (by kernel_rfl) (fun _ _ _ h => h) (yieldsSoIn_of (by kernel_rfl) ?_ (fun _ => rfl)) q0 ?_; rotate_left; focus (intro wq hw; have kq := KC.out wq hw; clear hw; go_simp; try (with_reducible rfl))
      refine wpHeldIn_take (i := 1) (v := ?_) (plain_of (by kernel_rfl)) rfl (by kernel_rfl) (fun _ _ _ h => h) (yieldsSoIn_of (by kernel_rfl) ?_ (fun _ => rfl)) q0 ?_; rotate_left; focus (intro wq hw; have kq := KC.out wq hw; clear hw; go_simp; try (with_reducible rfl))
      refine wpHeldIn_one (i := 2) (by kernel_rfl) (by kernel_rfl) rfl (by kernel_rfl) (fun K1 hK1 => ?_)
      go_simp
      refine ⟨trivial, (callsIn_wide.2 (HI1.out _)).mono ?_⟩
      rintro e2 w2 ⟨rfl, hb2⟩
      have q1 := q0.trans (hb2.mono q0.size)
      refine hK1 _ _ q1 ?_
      refine wpHeldIn_take (i := 3) (v := ?_) (plain_of (by kernel_rfl)) rfl (by kernel_rfl) (fun _ _ _ h => h) (yieldsSoIn_of (by kernel_rfl) ?_ (fun _ => rfl)) q1 ?_; rotate_left; focus (intro wq hw; clear hw; go_simp; try (with_reducible rfl))
      refine wpHeldIn_skip (i := 4) (plain_of (by kernel_rfl)) rfl (by kernel_rfl) (by kernel_rfl) (fun _ => trivial) (by kernel_rfl) (fun _ _ _ h => h) q1 ?_
      refine wpHeldIn_skip (i := 5) (plain_of (by kernel_rfl)) rfl (by kernel_rfl) (by kernel_rfl) (fun _ => trivial) (by kernel_rfl) (fun _ _ _ h => h) q1 ?_
      obtain ⟨w3, hw3⟩ : ∃ w3, w3 = w2 := ⟨_, rfl⟩
      have q2 := q1
      refine wpHeldIn_take (i := 6) (v := ?_) (plain_of (by kernel_rfl)) rfl (by kernel_rfl) (fun _ _ _ h => h) (yieldsSoIn_of (by kernel_rfl) ?_ (fun _ => rfl)) q2 ?_; rotate_left; focus (intro wq hw; clear hw; go_simp; try (with_reducible rfl))
      refine wpHeldIn_one (i := 7) (by kernel_rfl) (by kernel_rfl) rfl (by kernel_rfl) (fun K3 hK3 => ?_)
      go_simp
      refine ⟨trivial, (callsIn_wide.2 (HK2.out _ q2)).mono ?_⟩
      rintro e5 w5 ⟨A5, c5, rfl, hP5, hb5⟩
      have q3 := q2.trans (hb5.mono q2.size)
      refine hK3 _ _ q3 ?_
      refine wpHeldIn_take (i := 8) (v := ?_) (plain_of (by kernel_rfl)) rfl (by kernel_rfl) (fun _ _ _ h => h) (yieldsSoIn_of (by kernel_rfl) ?_ (fun _ => rfl)) q3 ?_; rotate_left; focus (intro wq hw; clear hw; go_simp; try (with_reducible rfl))
      refine wpHeldIn_take (i := 9) (v := ?_) (plain_of (by kernel_rfl)) rfl (by kernel_rfl) (fun _ _ _ h => h) (yieldsSoIn_of (by kernel_rfl) ?_ (fun _ => rfl)) q3 ?_; rotate_left; focus (intro wq hw; clear hw; go_simp; try (with_reducible rfl))
      refine wpHeldIn_take (i := 10) (v := ?_) (plain_of (by kernel_rfl)) rfl (by kernel_rfl) (fun _ _ _ h => h) (yieldsSoIn_of (by kernel_rfl) ?_ (fun _ => rfl)) q3 ?_; rotate_left; focus (intro wq hw; clear hw; go_simp; try (with_reducible rfl))
      refine wpHeldIn_take (i := 11) (v := ?_) (plain_of (by kernel_rfl)) rfl (by kernel_rfl) (fun _ _ _ h => h) (yieldsSoIn_of (by kernel_rfl) ?_ (fun _ => rfl)) q3 ?_; rotate_left; focus (intro wq hw; clear hw; go_simp; try (with_reducible rfl))
      refine wpHeldIn_take (i := 12) (v := ?_) (plain_of (by kernel_rfl)) rfl (by kernel_rfl) (fun _ _ _ h => h) (yieldsSoIn_of (by kernel_rfl) ?_ (fun _ => rfl)) q3 ?_; rotate_left; focus (intro wq hw; clear hw; go_simp; try (with_reducible rfl))
      refine wpHeldIn_done (by kernel_rfl) ?_ _
      go_simp
      have hB5 := hB1.trans (q3.mono hB1.size)
      have bR5 := bR1.below q3
      have bA5 := bA1.below q3
      have bB5 := bB1.below q3
      clear hb2 hb5 q3 KC q0 q1 q2 HK2 HK bS1 bA1 bB1 bR1 hB1
      go_wp2_with fail
      have bO5 := BoxS.new w5 23 #[.int .i64 0, .int .i64 0]
      have hbx : Below w5.heap.size w5 (w5.alloc (.cells #[.int .i64 0, .int .i64 0] 23)) := (Below.refl _ _).alloc (Nat.le_refl _) _
      have bR6 := bR5.below hbx
      have hB6 := hB5.trans (hbx.mono hB5.size)
      obtain ⟨BO, hBO⟩ : ∃ B, B = w5.heap.size := ⟨_, rfl⟩
      have k1 : w.heap.size + 1 + 1 + 1 < BO := by have := bR5.lt; omega
      rw [← hBO] at bO5 ⊢
      clear hP5 bR5 bA5 bB5 hB5 hbx hBO
      generalize World.alloc w5 _ = w6 at *
      go_loopg [11] 0 (fun g x9 wx => x9 = .int .i64 0 ∧ wx = w6)
      case atStart => exact ⟨rfl, rfl⟩
      case round =>
        obtain ⟨rfl, rfl⟩ := hrel
        have bO := bO5
        have bR := bR6
        have hB := hB6
        have lR := bR.lt
        obtain ⟨o0, o1⟩ := boxS2 bO
        obtain ⟨r0, r1⟩ := boxS2 bR
        have g0 := bR.frozen 0
        have g1 := bR.frozen 1
        go_wp2_with fail
        have bRz := (two_put (two_put bR (.int .i64 0)).1 (.int .i64 0)).2
        have hBz : Below w.heap.size w ((wr.setCell ⟨w.heap.size + 1 + 1 + 1, 0, none⟩ (.int .i64 0)).setCell ⟨w.heap.size + 1 + 1 + 1, 1, none⟩ (.int .i64 0)) := by (repeat' (first | (with_reducible exact Below.refl _ _) | (with_reducible assumption) | (with_reducible refine Below.alloc ?_ ?_ _) | (with_reducible refine Below.drew ?_) | (with_reducible refine Below.setCell ?_ ?_ _) | go_size | (exact (by simp)) | omega))
        clear o0 o1 r0 r1 g0 g1
        generalize World.setCell (World.setCell wr _ _) _ _ = wz at *
        obtain ⟨r0, r1⟩ := boxS2 bRz
        exact bodyPost_ret (v := .tuple #[.agg #[.int .i64 0, .int .i64 0], .int .i64 E]) (by simp [results, Try.results51, go_sem, r0, r1]) rfl ⟨rfl, hBz⟩
end Go.Proofs.Ytgpmnkdagpcffaa
