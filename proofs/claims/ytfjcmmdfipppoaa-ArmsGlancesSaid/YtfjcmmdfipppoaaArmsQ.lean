/- Contract of Settings of package arms. -/
import Derived.Test.YtfjcmmdfipppoaaArmsP
import Derived.Deep.RegionHeld3
import Derived.WalkMore
import Derived.Deep.Onto
namespace Go.Proofs.Ytfjcmmdfipppoaa
open Go.RowKit

theorem int_info : (Try.prog.info? 3).map (fun i => (i.zero, i.size, i.bytes)) = some (some (.int .i64 0), 1, 8) := by kernel_rfl
/-- A result that is a slice of numbers of the call's own, and an error. -/
def SomeInts (xs : List Int) (E : Int) (w : World) (r : Ending) (w' : World) : Prop :=
  ∃ v, r = .returned (.tuple #[v, .int .i64 E]) ∧ w'.ownsRow w.heap.size 3 1 v xs.length (xs.map (Value.int .i64)) ∧ Below w.heap.size w w'
theorem own_nil (w : World) (B : Nat) : w.ownsRow B 3 1 (.slice none 0 0) ([] : List Int).length (([] : List Int).map (Value.int .i64)) := ⟨by simp, .inl ⟨rfl, rfl⟩⟩

theorem own_below {w w' : World} {B : Nat} {v : Value} {n : Nat} {xs : List Value} (h : w.ownsRow B 3 1 v n xs) (hb : Below w.heap.size w w') : w'.ownsRow B 3 1 v n xs :=
  h.kept (row := none) ⟨hb.os, hb.tape, hb.output, hb.size, fun k hk _ => hb.block k hk⟩ (by cases hv : v.ownBlock <;> simp)
theorem ver_keep {wo W w' : World} {x y : Nat} {p s g h : Int}
    (hS : Below wo.heap.size wo W ∧ (W.cell? ⟨x, 0, none⟩ = some (.int .i64 p) ∧ W.cell? ⟨x, 1, none⟩ = some (.int .i64 s)) ∧ (W.cell? ⟨y, 0, none⟩ = some (.int .i64 g) ∧ W.cell? ⟨y, 1, none⟩ = some (.int .i64 h)))
    (hx : x < wo.heap.size) (hy : y < wo.heap.size) (hb : Below W.heap.size W w') :
    Below wo.heap.size wo w' ∧ (w'.cell? ⟨x, 0, none⟩ = some (.int .i64 p) ∧ w'.cell? ⟨x, 1, none⟩ = some (.int .i64 s)) ∧ (w'.cell? ⟨y, 0, none⟩ = some (.int .i64 g) ∧ w'.cell? ⟨y, 1, none⟩ = some (.int .i64 h)) := by
  obtain ⟨q, ⟨h0, h1⟩, h2, h3⟩ := hS
  have hz := q.size
  have c0 : x < W.heap.size := by omega
  have c1 : y < W.heap.size := by omega
  exact ⟨q.trans (hb.mono hz), ⟨(hb.cell c0).trans h0, (hb.cell c0).trans h1⟩, (hb.cell c1).trans h2, (hb.cell c1).trans h3⟩
/-- 'out = append(out, x)' on a row of the call's own. -/
theorem wpList_push {ops : Array Oper} {rest : List Oper} {o : Oper} {a : Act} {Q : Exit → Act → World → Prop} {wr : World} (hgd : o.guard = none) (s y : Operand)
    (ho : o.op = .call { callee := .builtin .append, args := #[s, y], argTypes := #[47, 47] }) (x : Int) (B : Nat) (v : Value) (n : Nat) (xs : List Value) (hs : a.eval s = v)
    (hx : a.eval y = .slice (some ⟨wr.heap.size, 0, none⟩) 1 1) (hown : wr.ownsRow B 3 1 v n xs) (hB : B ≤ wr.heap.size) (hn : n ≤ 100000)
    (h : ∀ v' w', w'.ownsRow B 3 1 v' (n + 1) (xs ++ [.int .i64 x]) → Below B wr w' → wpList Try.prog ops Q rest (a.put o.dst v') w') :
    wpList Try.prog ops Q (o :: rest) a (wr.alloc (.cells #[.int .i64 x] 3)) := by
  obtain ⟨i0, hi0, hz0, hz1, hz2⟩ := info_parts int_info
  refine wpList_append_own _ hgd s y 47 ho B 3 i0 (.int .i64 0) 1 8 Try.underlying47 hi0 hz0 hz1 hz2 rfl (by decide) v n xs hs (hown.alloc _) ⟨wr.heap.size, 0, none⟩ 1 1 [.int .i64 x] hx rfl ?_ ?_ ?_ ?_ ?_ ?_
  · intro j u hu
    rcases j with _ | j
    · have hu' : u = .int .i64 x := by simpa using hu.symm
      subst hu'
      show (wr.alloc _).cell? ⟨wr.heap.size, 0, none⟩ = _
      go_cell
    · simp at hu
  · intro u hu
    simp at hu
    subst hu
    rfl
  · simp only [maxLen]; omega
  · omega
  · simp; omega
  · intro v' w' hown' hg _
    exact h v' w' hown' (((Below.refl B wr).alloc hB _).grown hg (by simp; omega) (fun j hj => (hown.lt j hj).1))
namespace Ver
theorem upto_yes {p s : Int} {gs : List (Int × Int)} {k : Nat} (h : allB p s gs k = true) : upto p s gs (k + 1) = upto p s gs k ++ [(k : Int)] := by rw [upto, if_pos h]
theorem upto_no {p s : Int} {gs : List (Int × Int)} {k : Nat} (h : ¬ allB p s gs k = true) : upto p s gs (k + 1) = upto p s gs k := by rw [upto, if_neg h]
theorem all_no {p s : Int} {gs : List (Int × Int)} {n : Int} {j : Nat} {g : Int × Int} (hg : gs[j]? = some g) (h : ¬ oneB p s n g = true) : ¬ allB p s gs n = true := by
  intro ha
  exact h (List.all_eq_true.1 ha g (List.mem_of_getElem? hg))
theorem all_yes {p s : Int} {gs : List (Int × Int)} {n : Int} (h : ∀ (i : Nat) (g : Int × Int), i < gs.length → gs[i]? = some g → oneB p s n g = true) : allB p s gs n = true := by
  refine List.all_eq_true.2 fun g hg => ?_
  obtain ⟨j, hj, hjg⟩ := List.getElem_of_mem hg
  exact h j g hj (by rw [← hjg]; exact List.getElem?_eq_getElem hj)
end Ver

set_option maxRecDepth 100000 in
set_option maxHeartbeats 2000000 in
theorem Settings_yes (p s : Int) (A : Option Addr) (c : Nat) (gs : List (Int × Int)) (w : World) (hl : gs.length ≤ 140737488355328) (hg : Gls w w.heap.size A gs) (hv : Ver.vP p s) (hgs : Ver.glsP p gs) :
    Calls Try.prog 35 #[.agg #[.int .i64 p, .int .i64 s], .slice A gs.length c] w (SomeInts (Ver.setV p s gs) (Ver.setE p s gs) w) := by
  obtain ⟨i0, hi0, hz0, hz1, hz2⟩ := info_parts int_info
  have HV := Lib.hid hv
  have HGS := Lib.hid hgs
  have E1 := Lib.hid (Ver.vE_yes hv)
  have E2 := Lib.hid (Ver.glE_yes hgs)
  have h6 := hgs.1
  obtain ⟨b, off, rfl, hbB, hcc⟩ := hg (by omega)
  have hG := Lib.hid hcc
  have hgl : Hid (∀ (j : Nat) (g : Int × Int), gs[j]? = some g → Ver.glP p g) := fun j g hj => HGS.out.2 g (List.mem_of_getElem? hj)
  unfold Ver.vP at hv
  clear hgs hg hcc
  go_enter Try.func35, Try.ntmps35
  go_wp2_with fail
  go_step3
  go_wp2_with fail
  refine (checkVernier_any p s _).mono ?_
  rintro e w1 ⟨rfl, hb1⟩
  have hB1 : Below w.heap.size w w1 := Below.trans (by (repeat' (first | (with_reducible exact Below.refl _ _) | (with_reducible assumption) | (with_reducible refine Below.alloc ?_ ?_ _) | (with_reducible refine below_drewN ?_ _) | (with_reducible refine Below.drew ?_) | (with_reducible refine Below.setCell ?_ ?_ _) | go_size))) (hb1.mono (by first | omega | (simp; done) | (simp; omega))); have hz1 := hb1.size; try simp at hz1
  have hl1v : w.heap.size < w1.heap.size := (by omega); have hx1v0 : w1.cell? ⟨w.heap.size, 0, none⟩ = some (.int .i64 (p)) := (by rw [(hb1.cell (by first | omega | (simp; done) | (simp; omega)))]; (repeat (rw [World.cell?_alloc_lt _ _ _ (by first | omega | (simp; done) | (simp; omega))])); go_cell); have hx1v1 : w1.cell? ⟨w.heap.size, 1, none⟩ = some (.int .i64 (s)) := (by rw [(hb1.cell (by first | omega | (simp; done) | (simp; omega)))]; (repeat (rw [World.cell?_alloc_lt _ _ _ (by first | omega | (simp; done) | (simp; omega))])); go_cell)
  rw [E1.out]
  go_wp2_with fail
  refine (checkGlances_any p s (some ⟨b, off, none⟩) c gs _ hl (fun _ => ⟨b, off, rfl, by have := hB1.size; omega, fun k g hk => ⟨(hB1.cell (p := ⟨b, _, none⟩) hbB).trans (hG.out k g hk).1, (hB1.cell (p := ⟨b, _, none⟩) hbB).trans (hG.out k g hk).2⟩⟩)).mono ?_
  rintro e w2 ⟨rfl, hb2⟩
  have hB2 : Below w.heap.size w w2 := Below.trans (by (repeat' (first | (with_reducible exact Below.refl _ _) | (with_reducible assumption) | (with_reducible refine Below.alloc ?_ ?_ _) | (with_reducible refine below_drewN ?_ _) | (with_reducible refine Below.drew ?_) | (with_reducible refine Below.setCell ?_ ?_ _) | go_size))) (hb2.mono (by first | omega | (simp; done) | (simp; omega))); have hz2 := hb2.size; try simp at hz2
  have hl2v : w.heap.size < w2.heap.size := (by omega); have hx2v0 : w2.cell? ⟨w.heap.size, 0, none⟩ = some (.int .i64 (p)) := (by rw [(hb2.cell (by first | omega | (simp; done) | (simp; omega)))]; (repeat (rw [World.cell?_alloc_lt _ _ _ (by first | omega | (simp; done) | (simp; omega))])); go_cell); have hx2v1 : w2.cell? ⟨w.heap.size, 1, none⟩ = some (.int .i64 (s)) := (by rw [(hb2.cell (by first | omega | (simp; done) | (simp; omega)))]; (repeat (rw [World.cell?_alloc_lt _ _ _ (by first | omega | (simp; done) | (simp; omega))])); go_cell)
  rw [E2.out]
  go_wp2_with fail
  go_step3
  go_wp2_with fail
  clear hx1v0 hx1v1 hl1v hb1 hB1 hz1 hb2
  go_loopg [8, 23] 10001 (fun g x8 x23 wx => ∃ k : Nat, k + g = 10001 ∧ x23 = .int .i64 k ∧ Below w.heap.size w wx ∧ w.heap.size < wx.heap.size ∧ wx.cell? ⟨w.heap.size, 0, none⟩ = some (.int .i64 p) ∧ wx.cell? ⟨w.heap.size, 1, none⟩ = some (.int .i64 s) ∧
    wx.ownsRow (w.heap.size + 1) 3 1 x8 (Ver.upto p s gs k).length ((Ver.upto p s gs k).map (Value.int .i64)))
  case atStart => exact ⟨0, rfl, rfl, hB2, by omega, hx2v0, hx2v1, own_nil _ _⟩
  case round =>
    obtain ⟨k, hk, rfl, hB, hz, p0, p1, hown⟩ := hrel
    have HK := Lib.hid hk
    have hk0 : (0 : Int) ≤ (k : Int) := Int.natCast_nonneg k
    have hk1 : (k : Int) ≤ 10001 := by omega
    clear hk
    by_cases hlt : (k : Int) < 10001
    · go_wp2_with fail
      obtain ⟨gko, rfl⟩ : ∃ gko, gko = gk := ⟨_, rfl⟩
      obtain ⟨wq, rfl⟩ : ∃ wq, wq = wr := ⟨_, rfl⟩
      clear hx2v0 hx2v1 hl2v hB2 hz2
      go_loopg [28] gs.length (fun g2 x28 wy => ∃ j : Nat, Hid (j + g2 = gs.length) ∧ (j : Int) ≤ gs.length ∧ x28 = .int .i64 j ∧ Below w.heap.size w wy ∧ w.heap.size < wy.heap.size ∧ wy.cell? ⟨w.heap.size, 0, none⟩ = some (.int .i64 p) ∧ wy.cell? ⟨w.heap.size, 1, none⟩ = some (.int .i64 s) ∧
        wy.ownsRow (w.heap.size + 1) 3 1 u8 (Ver.upto p s gs k).length ((Ver.upto p s gs k).map (Value.int .i64)) ∧ Hid (∀ (i : Nat) (g : Int × Int), i < j → gs[i]? = some g → Ver.oneB p s k g = true))
      case atStart => exact ⟨0, by simp [Hid], by omega, rfl, hB, hz, p0, p1, hown, fun i g hi => by omega⟩
      case round =>
        clear hB hz p0 p1 hown
        obtain ⟨j, hj, hj1, rfl, hB, hz, p0, p1, hown, hall⟩ := hrel
        by_cases hjl : (j : Int) < gs.length
        · have hjn : j < gs.length := by omega
          have hgj : gs[j]? = some gs[j] := List.getElem?_eq_getElem hjn
          obtain ⟨c0, c1⟩ := hG.out j _ hgj
          have d0 := (hB.cell (p := ⟨b, off + j * 2, none⟩) hbB).trans c0
          have d1 := (hB.cell (p := ⟨b, off + j * 2 + 1, none⟩) hbB).trans c1
          have hbr : b < wr.heap.size := by have := hB.size; omega
          have hgp := hgl.out j _ hgj
          have HJ := Lib.hid hgj
          clear c0 c1 hgj
          generalize gs[j] = gl at *
          unfold Ver.glP at hgp
          go_wp2_with fail
          generalize hW : World.alloc wr _ = W
          have hBW : Below w.heap.size w W := by rw [← hW]; exact hB.alloc hB.size _
          have hzW : w.heap.size < W.heap.size := by rw [← hW]; simp; omega
          have hyW : wr.heap.size < W.heap.size := by rw [← hW]; simp
          have g0 : W.cell? ⟨wr.heap.size, 0, none⟩ = some (.int .i64 gl.1) := by rw [← hW]; clear hW; go_cell
          have g1 : W.cell? ⟨wr.heap.size, 1, none⟩ = some (.int .i64 gl.2) := by rw [← hW]; clear hW; go_cell
          have q0 : W.cell? ⟨w.heap.size, 0, none⟩ = some (.int .i64 p) := by rw [← hW, World.cell?_alloc_lt _ _ _ hz]; exact p0
          have q1 : W.cell? ⟨w.heap.size, 1, none⟩ = some (.int .i64 s) := by rw [← hW, World.cell?_alloc_lt _ _ _ hz]; exact p1
          have hownW : W.ownsRow (w.heap.size + 1) 3 1 u8 (Ver.upto p s gs k).length ((Ver.upto p s gs k).map (Value.int .i64)) := by rw [← hW]; exact hown.alloc _
          have HO := Lib.hid hownW
          clear hW hown hownW d0 d1 hbr p0 p1 hz hB
          generalize wr.heap.size = y at *
          have hpn : ¬ p = 0 := by omega
          have hdn := Int.ediv_nonneg (a := (k : Int)) (b := p) hk0 (by omega)
          have hdl := Int.ediv_le_self (a := (k : Int)) p hk0
          have hwq : IntKind.i64.wrap ((k : Int) / p) = (k : Int) / p := IntWalk.i64_in _ (by omega)
          by_cases hm : (k : Int) / p = gl.1
          · have hmB : ((k : Int) / p != gl.1) = false := by simpa using hm
            have HM := Lib.hid hm
            clear hm
            obtain ⟨wo, rfl⟩ : ∃ wo, wo = W := ⟨_, rfl⟩
            go_region_held3 (fun w' => Below wo.heap.size wo w' ∧ (w'.cell? ⟨w.heap.size, 0, none⟩ = some (.int .i64 p) ∧ w'.cell? ⟨w.heap.size, 1, none⟩ = some (.int .i64 s)) ∧ (w'.cell? ⟨y, 0, none⟩ = some (.int .i64 gl.1) ∧ w'.cell? ⟨y, 1, none⟩ = some (.int .i64 gl.2)))
              (first | exact ⟨Below.refl _ _, ⟨q0, q1⟩, g0, g1⟩ | exact ⟨(Below.refl _ _).drew, ⟨q0, q1⟩, g0, g1⟩ | (with_reducible assumption))
              (first | (go_at_call 75; refine (fits_any p s k gl.2 _ HV.out hk0 (by omega) hgp.2.1 hgp.2.2).mono ?_; rintro e w3 ⟨rfl, hb3⟩; have hS := ver_keep (by with_reducible assumption) hzW hyW hb3))
            obtain ⟨q, ⟨k0, k1⟩, _, _⟩ : Below wo.heap.size wo w3 ∧ _ := by assumption
            have hB3 := hBW.trans (q.mono hBW.size)
            have hz3 : w.heap.size < w3.heap.size := by have := q.size; omega
            have HO3 := Lib.hid (own_below HO.out q)
            clear q q0 q1 g0 g1 hBW hzW hyW hmB hwq hdn hdl hpn
            cases hfit : Ver.fitB p s k gl.2
            · have HF := Lib.hid hfit
              have hno : Hid (¬ Ver.allB p s gs k = true) := Ver.all_no HJ.out (by unfold Ver.oneB; rw [HF.out]; simp)
              go_wp2_with fail
              obtain ⟨g', hg'⟩ : ∃ g', gko = g' + 1 := ⟨gko - 1, by have := HK.out; omega⟩
              go_roundg g'
              case measure => omega
              case rel => exact ⟨k + 1, by have := HK.out; omega, by go_num, hB3, hz3, k0, k1, by rw [Ver.upto_no hno.out]; exact HO3.out⟩
            · have HF := Lib.hid hfit
              go_wp2_with fail
              obtain ⟨g', hg'⟩ : ∃ g', gk = g' + 1 := ⟨gk - 1, by have := hj.out; omega⟩
              go_roundg g'
              case measure => omega
              case rel =>
                refine ⟨j + 1, ?_, by omega, by go_num, hB3, hz3, k0, k1, HO3.out, fun i g hi hg => ?_⟩
                · have := hj.out
                  simp only [Hid]; omega
                · by_cases e : i = j
                  · subst e
                    have : g = gl := by have := HJ.out; rw [hg] at this; injection this
                    subst this
                    unfold Ver.oneB
                    rw [HF.out, HM.out]
                    simp
                  · exact hall.out i g (by omega) hg
          · have hmB : ((k : Int) / p != gl.1) = true := by simpa using hm
            have HM := Lib.hid hm
            have hno : Hid (¬ Ver.allB p s gs k = true) := Ver.all_no HJ.out (by unfold Ver.oneB; simp [HM.out])
            clear hm
            go_quiet (fail)
            clear hmB hwq hdn hdl hpn
            go_wp2_with fail
            obtain ⟨g', hg'⟩ : ∃ g', gko = g' + 1 := ⟨gko - 1, by have := HK.out; omega⟩
            go_roundg g'
            case measure => omega
            case rel => exact ⟨k + 1, by have := HK.out; omega, by go_num, below_drewN hBW _, by simpa using hzW, q0, q1, by rw [Ver.upto_no hno.out]; exact HO.out⟩
        · have e : j = gs.length := by omega
          have hyes : Hid (Ver.allB p s gs k = true) := Ver.all_yes (fun i g hi hg => hall.out i g (by omega) hg)
          have HO := Lib.hid hown
          clear e hown
          have hul := Ver.upto_len p s gs k
          go_wp2_with (at_builtin; refine wpList_push rfl (.tmp 48) (.tmp 50) rfl (k : Int) (w.heap.size + 1) u8 _ _ rfl rfl HO.out (by omega) (by omega) ?_; intro v' w3 hown3 hb3; have HO3 := Lib.hid hown3; clear hown3)
          obtain ⟨g', hg'⟩ : ∃ g', gko = g' + 1 := ⟨gko - 1, by have := HK.out; omega⟩
          go_roundg g'
          case measure => omega
          case rel =>
            refine ⟨k + 1, by have := HK.out; omega, by go_num, hB.trans (hb3.mono (by omega)), by have := hb3.size; omega, (hb3.cell (by simp)).trans p0, (hb3.cell (by simp)).trans p1, ?_⟩
            rw [Ver.upto_yes hyes.out]
            simpa using HO3.out
    · have e : k = 10001 := by omega
      have hsE : Hid (Ver.setE p s gs = if (Ver.upto p s gs k).length = 0 then 3 else 0) := by
        unfold Ver.setE
        rw [if_neg (fun h => h HV.out), if_neg (fun h => h HGS.out), e]
        rfl
      have hsV : Hid (Ver.setV p s gs = Ver.upto p s gs k) := by
        unfold Ver.setV
        rw [hsE.out, e]
        by_cases h0 : (Ver.upto p s gs 10001).length = 0
        · rw [if_pos h0, if_neg (by omega)]
          exact (List.eq_nil_of_length_eq_zero h0).symm
        · rw [if_neg h0]; rfl
      have HO := Lib.hid hown
      clear e hown
      generalize Ver.upto p s gs k = l at *
      have hB1 := hB
      rcases HO.out.2 with ⟨hu, hn⟩ | ⟨g, cap, cur, hu, _⟩
      · have e0 := List.eq_nil_of_length_eq_zero hn
        have HU := Lib.hid hu
        clear hu hn
        subst e0
        rw [HU.out]
        go_wp2_with fail
        try rw [Exit.noGoto_ret]
        go_ret2
        refine ⟨.slice none 0 0, ?_, ?_, hB1⟩
        · rw [hsE.out]; rfl
        · rw [hsV.out]; exact own_nil _ _
      · have HU := Lib.hid hu
        clear hu
        by_cases hl0 : l.length = 0
        · have e0 := List.eq_nil_of_length_eq_zero hl0
          subst e0
          rw [HU.out]
          go_wp2_with fail
          try rw [Exit.noGoto_ret]
          go_ret2
          refine ⟨.slice none 0 0, ?_, ?_, hB1⟩
          · rw [hsE.out]; rfl
          · rw [hsV.out]; exact own_nil _ _
        · have hb0 : ((l.length : Int) == 0) = false := by rw [beq_eq_false_iff_ne]; omega
          rw [HU.out]
          go_wp2_with fail
          try rw [Exit.noGoto_ret]
          go_ret2
          refine ⟨.slice (some ⟨g, 0, none⟩) l.length cap, ?_, ?_, hB1⟩
          · rw [hsE.out, if_neg hl0]; rfl
          · rw [hsV.out]; have := HO.out.mono (base' := w.heap.size) (by omega); rw [HU.out] at this; exact this
end Go.Proofs.Ytfjcmmdfipppoaa
