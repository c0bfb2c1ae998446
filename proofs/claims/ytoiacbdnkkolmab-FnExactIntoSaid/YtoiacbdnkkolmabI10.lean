import Derived.Test.YtoiacbdnkkolmabI9
namespace Go.Proofs.Ytoiacbdnkkolmab
open Go.RowKit

theorem info_place : (Try.prog.info? 112).map (fun i => (i.zero, i.size, i.bytes)) = some (some (.agg #[.int .i64 0, .pointer none, .pointer none]), 3, 24) := by kernel_rfl

theorem FInv.first {N4 : Nat} {f : Nat → M} {w w' w'' : World} {pv' : Value} {top : Option Addr} {bw g : Nat} {y : Int} {x : Option Addr}
    (one : Below (w.heap.size + 1) (w.alloc (.cells #[.int .i64 0, .int .i64 0] 79)) w') (hN : w.heap.size < N4) (hl : N4 < w'.heap.size) (z4 : w'.cell? ⟨N4, 4, none⟩ = none)
    (p0 : w'.cell? ⟨N4, 0, none⟩ = some (.int .i64 0)) (p1 : w'.cell? ⟨N4, 1, none⟩ = some (.pointer top)) (p2 : w'.cell? ⟨N4, 2, none⟩ = some (.pointer (some ⟨bw, 0, none⟩)))
    (f0 : w'.frozen? ⟨N4, 0, none⟩ = false) (f1 : w'.frozen? ⟨N4, 1, none⟩ = false) (f2 : w'.frozen? ⟨N4, 2, none⟩ = false) (pl : PlaceAt w' St.init top bw)
    (t0 : w'.cell? ⟨g, 0, none⟩ = some (.int .i64 y)) (t2 : w'.cell? ⟨g, 2, none⟩ = some (.pointer x)) (hgN : N4 < g) (hg : w'.grownBy w'' (some g))
    (ho : w''.ownsRow (N4 + 1) 112 3 pv' (0 + 1) ([] ++ [.int .i64 0, .pointer top, .pointer (some ⟨bw, 0, none⟩)])) :
    FInv N4 f w w'' pv' 0 (St.after f 0) top bw [.int .i64 0, .pointer top, .pointer (some ⟨bw, 0, none⟩)] := by
  have hne : some N4 ≠ some g := fun e => by cases e; omega
  have hb : Below (w.heap.size + 1) w' w'' := ⟨hg.os, hg.tape, hg.output, hg.size, fun i hi => hg.block i (by omega) (fun e => by cases e; omega)⟩
  have hblk := hg.block N4 hl hne
  refine ⟨one.trans hb, hN, Nat.lt_of_lt_of_le hl hg.size, ?_, hg.cell p0 hne, hg.cell p1 hne, hg.cell p2 hne, ?_, ?_, ?_, pl.grown hg t0 t2, ho, fun j hj => ?_⟩
  · rw [World.cell?_of_block (w := w') (a := ⟨N4, 4, none⟩) hblk]; exact z4
  · rw [World.frozen?_of_block (w := w') (a := ⟨N4, 0, none⟩) hblk]; exact f0
  · rw [World.frozen?_of_block (w := w') (a := ⟨N4, 1, none⟩) hblk]; exact f1
  · rw [World.frozen?_of_block (w := w') (a := ⟨N4, 2, none⟩) hblk]; exact f2
  · have e : j = 0 := by omega
    subst e
    exact ⟨top, bw, rfl, rfl, rfl, pl.grown hg t0 t2⟩

theorem PlacesAt.setBox {w : World} {b o : Nat} {u v : Value} {n : Nat} {f : Nat → M} {lo : Nat} (h : PlacesAt lo w v n f) (hz : w.cell? ⟨b, 4, none⟩ = none) (hob : v.ownBlock ≠ some b) : PlacesAt lo (w.setCell ⟨b, o, none⟩ u) v n f := by
  obtain ⟨xs, h1, h2⟩ := h
  refine ⟨xs, owns_setCell h1 hob, fun j hj => ?_⟩
  obtain ⟨t, b', k1, k2, k3, k4⟩ := h2 j hj
  exact ⟨t, b', k1, k2, k3, k4.setBox hz⟩

theorem PlacesAt.below {w w' : World} {v : Value} {n : Nat} {f : Nat → M} {lo : Nat} (h : PlacesAt lo w v n f) (hb : Below w.heap.size w w') : PlacesAt lo w' v n f := by
  obtain ⟨xs, h1, h2⟩ := h
  refine ⟨xs, owns_below h1 hb, fun j hj => ?_⟩
  obtain ⟨t, b', k1, k2, k3, k4⟩ := h2 j hj
  exact ⟨t, b', k1, k2, k3, k4.below hb⟩

def Followed (lo n : Nat) (f : Nat → M) (e : Ending) (w' : World) : Prop :=
  (∃ i : Nat, i < n ∧ codeAt f i ≠ 0 ∧ (∀ j, j < i → codeAt f j = 0) ∧ e = .returned (.tuple #[.slice none 0 0, .agg #[.int .i64 (codeAt f i), .int .i64 i]])) ∨
  ((∀ j, j < n → codeAt f j = 0) ∧ ∃ v', e = .returned (.tuple #[v', .agg #[.int .i64 0, .int .i64 0]]) ∧ PlacesAt lo w' v' n f)

set_option maxRecDepth 100000 in
set_option maxHeartbeats 2000000 in
theorem followMoments_any (lo nf : Nat) (v : Value) (n : Nat) (f : Nat → M) (w : World) (h : MomsAt lo w v n f) (hn : n ≤ 3000) (hm : ∀ j, j < n → MomentOk nf (f j)) :
    Calls Try.prog 119 #[v] w fun e w' => Followed w.heap.size n f e w' ∧ Below w.heap.size w w' := by
  have HM := hide hm; clear hm
  have HV := hide h
  obtain ⟨a, cap, rfl, hn', -⟩ := h
  clear hn'
  obtain ⟨mc, hmc⟩ : ∃ mc, mc = madeCells #[.int .i64 0, .pointer none, .pointer none] ((n + 1) * 3) := ⟨_, rfl⟩
  have hmk : ∀ w, (Instr.makeSlice 106 (.int .i64 0) (.int .i64 ((n : Int) + 1))).run Try.prog w = .ok (.slice (some ⟨w.heap.size, 0, none⟩) 0 (n + 1)) (w.alloc (.cells mc 112)) := fun w => by
    obtain ⟨i, hi, hz, hs, hb⟩ := info_parts info_place
    have hr := run_make (P := Try.prog) w 106 112 i _ Try.underlying106 hi hz .i64 .i64 0 ((n : Int) + 1) (by omega) (by omega) (by rw [hb]; omega) (by omega)
    rw [hr, hs, hmc, show ((n : Int) + 1).toNat = n + 1 by omega]
    rfl
  have ms : mc.size = (n + 1) * 3 := by rw [hmc]; exact size_madeCells _ _
  have m0 : mc[0]? = some (.int .i64 0) := by rw [hmc]; simp [madeCells]
  have m2 : mc[2]? = some (.pointer none) := by
    rw [hmc]
    have h2 : 2 < (n + 1) * 3 := by omega
    simp [madeCells, h2]
  have MS := hide (And.intro ms (And.intro m0 m2))
  clear hmc ms m0 m2
  have T1 : Hid (Below (w.heap.size + 1) (w.alloc (.cells #[.int .i64 0, .int .i64 0] 79)) (w.alloc (.cells #[.int .i64 0, .int .i64 0] 79))) := hide (Below.refl _ _)
  go_enter Try.func119, Try.ntmps119
  go_wp2_with fail
  refine (firstPlace_any _).mono ?_
  rintro e w1 ⟨⟨top, bw, rfl, hpl⟩, hb1⟩
  have hz1 : w.heap.size + 1 ≤ w1.heap.size := by have := hb1.size; simpa using this
  have T2 := hide ((unhide T1).trans (hb1.mono (by simp)))
  have HPL := hide hpl
  clear hb1 hpl T1
  obtain ⟨W5, hW5⟩ : ∃ W5, W5 = ((w1.alloc (.cells #[.int .i64 0, .pointer top, .pointer (some ⟨bw, 0, none⟩)] 112)).alloc (.cells mc 112)).alloc (.cells #[.int .i64 0, .pointer top, .pointer (some ⟨bw, 0, none⟩)] 112) := ⟨_, rfl⟩
  have hB5 : Below w1.heap.size w1 W5 := by rw [hW5]; exact (((Below.refl _ _).alloc (Nat.le_refl _) _).alloc (by simp) _).alloc (by simp; omega) _
  have hs5 : W5.heap.size = w1.heap.size + 3 := by rw [hW5]; simp
  have hc5 : ∀ i, W5.cell? ⟨w1.heap.size, i, none⟩ = (#[.int .i64 0, .pointer top, .pointer (some ⟨bw, 0, none⟩)] : Array Value)[i]? := fun i => by
    rw [hW5, World.cell?_alloc_old _ _ _ (by simp; omega), World.cell?_alloc_old _ _ _ (by simp), cell_alloc_at _ _ _ _ _ rfl]
  have hf5 : ∀ i, W5.frozen? ⟨w1.heap.size, i, none⟩ = false := fun i => by
    rw [hW5, World.frozen?_alloc_old _ _ _ (by simp; omega), World.frozen?_alloc_old _ _ _ (by simp), frozen_alloc_at _ _ _ _ _ rfl]
  have hg5 : ∀ i, W5.cell? ⟨w1.heap.size + 1, i, none⟩ = mc[i]? := fun i => by
    rw [hW5, World.cell?_alloc_old _ _ _ (by simp), cell_alloc_at _ _ _ _ _ (by simp)]
  have ho5 : W5.ownsRow (w1.heap.size + 1) 112 3 (.slice (some ⟨w1.heap.size + 1, 0, none⟩) 0 (n + 1)) 0 [] := by
    have h0 := World.ownsRow_made (base := w1.heap.size + 1) (e := 112) (size := 3) (w1.alloc (.cells #[.int .i64 0, .pointer top, .pointer (some ⟨bw, 0, none⟩)] 112)) mc (n + 1) (by simp) (by unfold maxLen; omega) (unhide MS).1
    rw [hW5]
    refine World.ownsRow.alloc ?_ _
    simpa using h0
  have hn5 : ∀ j u, ([.int .i64 0, .pointer top, .pointer (some ⟨bw, 0, none⟩)] : List Value)[j]? = some u → W5.cell? ((⟨w1.heap.size + 1 + 1, 0, none⟩ : Addr).add j) = some u := by
    have h0 := World.news_of_block (B := w1.heap.size + 1 + 1) (cs := #[.int .i64 0, .pointer top, .pointer (some ⟨bw, 0, none⟩)]) (t := 112) (fr := (0, 0)) (w := W5) (by
      rw [hW5]
      have := heap_alloc_new ((w1.alloc (.cells #[.int .i64 0, .pointer top, .pointer (some ⟨bw, 0, none⟩)] 112)).alloc (.cells mc 112)) (.cells #[.int .i64 0, .pointer top, .pointer (some ⟨bw, 0, none⟩)] 112)
      simpa using this)
    exact h0
  have HW5 := hide hW5
  have HF : Hid (∀ g cap w', w'.ownsRow (w1.heap.size + 1) 112 3 (.slice (some ⟨g, 0, none⟩) (0 + 1) cap) (0 + 1) ([] ++ [.int .i64 0, .pointer top, .pointer (some ⟨bw, 0, none⟩)]) → W5.grownBy w' (Value.slice (some ⟨w1.heap.size + 1, 0, none⟩) 0 (n + 1)).ownBlock →
      FInv w1.heap.size f w w' (.slice (some ⟨g, 0, none⟩) (0 + 1) cap) 0 (St.after f 0) top bw [.int .i64 0, .pointer top, .pointer (some ⟨bw, 0, none⟩)]) := hide fun g cap w' ho hg =>
    FInv.first (g := w1.heap.size + 1) ((unhide T2).trans (hB5.mono (by omega))) (by omega) (by omega) (by rw [hc5]; rfl) (by rw [hc5]; rfl) (by rw [hc5]; rfl) (by rw [hc5]; rfl) (hf5 0) (hf5 1) (hf5 2) ((unhide HPL).below hB5)
      (by rw [hg5]; exact (unhide MS).2.1) (by rw [hg5]; exact (unhide MS).2.2) (by omega) hg ho
  have HO5 := hide ho5
  have HN5 := hide hn5
  have HS5 := hide hs5
  clear hW5 hB5 hs5 hc5 hf5 hg5 ho5 hn5
  obtain ⟨i0, hi0, hz0, hz1', hz2⟩ := info_parts info_place
  have II := hide (And.intro hi0 (And.intro hz0 (And.intro hz1' hz2))); clear hi0 hz0 hz1' hz2
  go_wp2_with (at_builtin; refine wpList_append_lies _ (by rfl) _ _ _ (by rfl) (w1.heap.size + 1) 112 i0 _ 3 24 Try.underlying106 (unhide II).1 (unhide II).2.1 (unhide II).2.2.1 (unhide II).2.2.2 rfl (by omega) (.slice (some ⟨w1.heap.size + 1, 0, none⟩) 0 (n + 1)) 0 [] (by rfl) (by rw [← unhide HW5]; exact unhide HO5) ⟨w1.heap.size + 1 + 1, 0, none⟩ 1 1 [.int .i64 0, .pointer top, .pointer (some ⟨bw, 0, none⟩)] (by rfl) (by rfl) (by rw [← unhide HW5]; exact unhide HN5) (by simp [Value.oneCell']) (by omega) (by unfold maxLen; omega) (by omega) (by rw [← unhide HW5, unhide HS5]; omega) (w1.heap.size + 3) (by rw [← unhide HW5, unhide HS5]) ?_; rw [← unhide HW5]; intro g cp w2 hown hgrow _ _)
  have HI := hide (unhide HF g cp w2 hown hgrow)
  clear hown hgrow HF HO5 HN5 HS5 HW5 T2 HPL hmk MS hz1
  obtain ⟨N4, hN4⟩ : ∃ N4, N4 = w1.heap.size := ⟨_, rfl⟩
  rw [← hN4] at HI
  rw [← hN4]
  go_loopw [5, 21] (fun p i w' => ∃ (k g cp : Nat) (top : Option Addr) (bw : Nat) (xs : List Value), k ≤ n ∧ i = .int .i64 k ∧ p = .slice (some ⟨g, 0, none⟩) (k + 1) cp ∧ (∀ j, j < k → codeAt f j = 0) ∧ FInv N4 f w w' (.slice (some ⟨g, 0, none⟩) (k + 1) cp) k (St.after f k) top bw xs) (fun _ i _ => n - (intOf i).toNat)
  case atStart => exact ⟨0, g, cp, top, bw, _, by omega, rfl, rfl, by omega, unhide HI⟩
  case round =>
    clear HI hN4
    obtain ⟨k, g', cp', top', bw', xs, hk, rfl, rfl, hq, hI⟩ := hrel
    have HQ := hide hq
    have HI := hide hI
    clear hq hI
    by_cases hlt : k < n
    · have hBw : Below w.heap.size w wr := ((Below.refl _ _).alloc (Nat.le_refl _) _).trans ((unhide HI).one.mono (by omega))
      obtain ⟨_, _, e, _, hv⟩ := (unhide HV).below hBw
      cases e
      obtain ⟨b, o, vv, rfl, hc0, hc1, hc2, hc3, hc4, hc5, hs1, hs2, -⟩ := hv k hlt
      clear hv hBw
      obtain ⟨av, capv, rfl, -⟩ := hs2
      have hmo := unhide HM k hlt
      have m1 : 1 ≤ (f k).kind := hmo.1.1
      have m2 : (f k).kind ≤ 7 := hmo.1.2.1
      have m3 : 0 ≤ (f k).task := hmo.1.2.2.1
      have m4 : (f k).task ≤ 100 := hmo.1.2.2.2.1
      clear hmo
      have BA := hide ((Below.refl wr.heap.size wr).alloc (Nat.le_refl _) (.cells #[.int .i64 (f k).kind, .int .i64 (f k).task, .int .i64 (f k).fn, .int .i64 (f k).line, .string (f k).text, .slice av (f k).nv capv] 73))
      go_wp2_with fail
      refine (eventOf_any _ _ _ _ _ _ _ m1 m2).mono ?_
      rintro e w3 ⟨rfl, hb3⟩
      have I3 := hide (((unhide HI).below (unhide BA)).below hb3)
      clear hb3
      have q0 := (unhide I3).p0
      have q1 := (unhide I3).p1
      have q2 := (unhide I3).p2
      go_wp2_with fail
      refine (refuses_any (St.after f k) _ _ _ _ top' bw' _ (unhide I3).pl m1 m2).mono ?_
      rintro e w4 ⟨rfl, hb4⟩
      have I4 := hide ((unhide I3).below hb4)
      clear hb4 q0 q1 q2
      have hce : code (St.after f k) (f k).kind (f k).task (f k).fn = codeAt f k := rfl
      rw [hce]
      clear hce
      by_cases hcode : codeAt f k = 0
      · rw [hcode]
        have HCO := hide hcode; clear hcode
        have q0 := (unhide I4).p0
        have q1 := (unhide I4).p1
        have q2 := (unhide I4).p2
        go_wp2_with fail
        refine (after_any (St.after f k) _ _ _ _ k top' bw' _ (unhide I4).pl m1 m2 m3 m4 (by omega) (unhide HCO)).mono ?_
        rintro e w5 ⟨⟨top2, bw2, rfl, hpl⟩, hb5⟩
        obtain ⟨s', hs'⟩ : ∃ s', s' = (St.after f k).step (f k).kind (f k).task (f k).fn (f k).line k := ⟨_, rfl⟩
        rw [← hs'] at hpl
        rw [← hs']
        have HS' : Hid (s' = St.after f (k + 1)) := hs'
        clear hs'
        have I5 := hide ((unhide I4).below hb5)
        have I6 := hide ((unhide I5).put hpl)
        clear hb5 hpl q0 q1 q2
        have q0 := (unhide I5).p0
        have q1 := (unhide I5).p1
        have q2 := (unhide I5).p2
        have y0 := (unhide I5).f0
        have y1 := (unhide I5).f1
        have y2 := (unhide I5).f2
        obtain ⟨W6, hW6⟩ : ∃ W6, W6 = (((w5.setCell ⟨N4, 0, none⟩ (.int .i64 s'.cur)).setCell ⟨N4, 1, none⟩ (.pointer top2)).setCell ⟨N4, 2, none⟩ (.pointer (some ⟨bw2, 0, none⟩))) := ⟨_, rfl⟩
        have hz6 : W6.heap.size = w5.heap.size := by rw [hW6]; simp
        rw [← hW6] at I6
        have HW6 := hide hW6
        clear hW6
        have hlt6 := (unhide I6).lt
        have I7 := hide ((unhide I6).below ((Below.refl _ _).alloc (Nat.le_refl _) (.cells #[.int .i64 s'.cur, .pointer top2, .pointer (some ⟨bw2, 0, none⟩)] 112)))
        have HN7 : Hid (∀ j u, ([.int .i64 s'.cur, .pointer top2, .pointer (some ⟨bw2, 0, none⟩)] : List Value)[j]? = some u → (W6.alloc (.cells #[.int .i64 s'.cur, .pointer top2, .pointer (some ⟨bw2, 0, none⟩)] 112)).cell? ((⟨w5.heap.size, 0, none⟩ : Addr).add j) = some u) := by
          rw [← hz6]
          exact hide (World.news_of_block (cs := #[.int .i64 s'.cur, .pointer top2, .pointer (some ⟨bw2, 0, none⟩)]) (t := 112) (fr := (0, 0)) (heap_alloc_new W6 _))
        have HZ7 : Hid ((W6.alloc (.cells #[.int .i64 s'.cur, .pointer top2, .pointer (some ⟨bw2, 0, none⟩)] 112)).heap.size = w5.heap.size + 1) := hide (by rw [World.size_alloc, hz6])
        have hN7 : N4 + 1 ≤ w5.heap.size + 1 := by omega
        clear hz6
        go_wp2_with (at_builtin; refine wpList_append_lies _ (by rfl) _ _ _ (by rfl) (N4 + 1) 112 i0 _ 3 24 Try.underlying106 (unhide II).1 (unhide II).2.1 (unhide II).2.2.1 (unhide II).2.2.2 rfl (by omega) (.slice (some ⟨g', 0, none⟩) (k + 1) cp') (k + 1) xs (by rfl) (by rw [← unhide HW6]; exact (unhide I7).own) ⟨w5.heap.size, 0, none⟩ 1 1 [.int .i64 s'.cur, .pointer top2, .pointer (some ⟨bw2, 0, none⟩)] (by rfl) (by rfl) (by rw [← unhide HW6]; exact unhide HN7) (by simp [Value.oneCell']) (by omega) (by unfold maxLen; omega) (by omega) (by rw [← unhide HW6, unhide HZ7]; omega) (w5.heap.size + 1) (by rw [← unhide HW6, unhide HZ7]) ?_; rw [← unhide HW6]; intro g2 cp2 w7 hown hgrow _ _; have I8 := hide ((unhide I7).push (unhide HS') hgrow hown); clear hown hgrow)
        go_roundw
        case rel =>
          have h8 := unhide I8
          rw [unhide HS'] at h8
          refine ⟨k + 1, g2, cp2, top2, bw2, _, by omega, by go_num, rfl, fun j hj => ?_, h8⟩
          by_cases hjk : j < k
          · exact unhide HQ j hjk
          · have e : j = k := by omega
            rw [e]; exact unhide HCO
        case measure => simp [intOf]; omega
      · have hcb : (codeAt f k != 0) = true := by simpa using hcode
        have HCO := hide hcode; clear hcode
        have z0 : w4.cell? ⟨w.heap.size, 0, none⟩ = some (.int .i64 0) := by rw [(unhide I4).one.cell (by simp), cell_alloc_at _ _ _ _ _ rfl]; rfl
        have z1 : w4.cell? ⟨w.heap.size, 1, none⟩ = some (.int .i64 0) := by rw [(unhide I4).one.cell (by simp), cell_alloc_at _ _ _ _ _ rfl]; rfl
        have y0 : w4.frozen? ⟨w.heap.size, 0, none⟩ = false := by rw [(unhide I4).one.frozen (by simp), frozen_alloc_at _ _ _ _ _ rfl]
        have y1 : w4.frozen? ⟨w.heap.size, 1, none⟩ = false := by rw [(unhide I4).one.frozen (by simp), frozen_alloc_at _ _ _ _ _ rfl]
        go_wp2
        refine bodyPost_ret (v := .tuple #[.slice none 0 0, .agg #[.int .i64 (codeAt f k), .int .i64 k]]) (by simp [results, Try.results119, go_sem, z0, z1]) rfl ⟨.inl ⟨k, hlt, unhide HCO, unhide HQ, rfl⟩, ?_⟩
        repeat (refine Below.setCell ?_ (by simp) _)
        exact ((Below.refl _ _).alloc (Nat.le_refl _) _).trans ((unhide I4).one.mono (by omega))
    · have hkn : k = n := by omega
      subst hkn
      have z0 : wr.cell? ⟨w.heap.size, 0, none⟩ = some (.int .i64 0) := by rw [(unhide HI).one.cell (by simp), cell_alloc_at _ _ _ _ _ rfl]; rfl
      have z1 : wr.cell? ⟨w.heap.size, 1, none⟩ = some (.int .i64 0) := by rw [(unhide HI).one.cell (by simp), cell_alloc_at _ _ _ _ _ rfl]; rfl
      have y0 : wr.frozen? ⟨w.heap.size, 0, none⟩ = false := by rw [(unhide HI).one.frozen (by simp), frozen_alloc_at _ _ _ _ _ rfl]
      have y1 : wr.frozen? ⟨w.heap.size, 1, none⟩ = false := by rw [(unhide HI).one.frozen (by simp), frozen_alloc_at _ _ _ _ _ rfl]
      go_wp2
      refine bodyPost_ret (v := .tuple #[.slice (some ⟨g', 0, none⟩) (k + 1) cp', .agg #[.int .i64 0, .int .i64 0]]) (by simp [results, Try.results119, go_sem, z0, z1]) rfl ⟨.inr ⟨unhide HQ, _, rfl, ?_⟩, ?_⟩
      · have ob : (Value.slice (some ⟨g', 0, none⟩) (k + 1) cp').ownBlock ≠ some w.heap.size := fun e => by
          have h1 := ((unhide HI).own.lt _ e).1
          have h2 := (unhide HI).hN
          omega
        have z4 : wr.cell? ⟨w.heap.size, 4, none⟩ = none := by rw [(unhide HI).one.cell (by simp), cell_alloc_at _ _ _ _ _ rfl]; rfl
        refine PlacesAt.setBox (PlacesAt.setBox ⟨_, owns_low (unhide HI).own (by have := (unhide HI).hN; omega), (unhide HI).pls⟩ z4 ob) (cell_none_set z4) ob
      · repeat (refine Below.setCell ?_ (by simp) _)
        exact ((Below.refl _ _).alloc (Nat.le_refl _) _).trans ((unhide HI).one.mono (by omega))
end Go.Proofs.Ytoiacbdnkkolmab
