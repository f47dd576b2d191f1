/-
  Keys that are read: the walk of the specification's inner reader.
-/
import Derived.Test.YtkfkhfagehcmiaaKj
import Derived.Laws.IdiomStrings
namespace Go.Proofs.Ytkfkhfagehcmiaa
open Go Go.RowKit
attribute [local go_sem ↓] Go.wp_at_zero Go.wp_at_succ


theorem pv1 (r : List Int) : pv 1 r = chk (0, 0, ⟨#[]⟩) 1 := pvx (by omega) (by omega)
theorem pvd_none {z : Int} {r : List Int} (h1 : ¬ z = 1) (h2 : ¬ z = 2) (h : zi r = r.length) : pv z r = none := by
  by_cases h3 : z = 3
  · subst h3; exact pv3 h
  · rw [pvx h2 h3]; exact chk_no (valx _ _ (by simp; omega) (by simp; omega) (by simp; omega))
theorem pvd {z : Int} {r : List Int} (h1 : ¬ z = 1) (h2 : ¬ z = 2) (h : ¬ zi r = r.length) : pv z r = chk (z - 1, 0, strOfNums (r.take (zi r))) (zi r + 2) := by
  by_cases h3 : z = 3
  · subst h3; exact pv3' h
  · rw [pvx h2 h3, chk_no (valx _ _ (by simp; omega) (by simp; omega) (by simp; omega)), chk_no (valx _ _ (by simp; omega) (by simp; omega) (by simp; omega))]
def AnsJ (w : World) (zs : List Int) (e : Ending) (w' : World) : Prop :=
  ∃ v, e = .returned (.tuple #[v, .bool (rk zs).isSome]) ∧ w'.ownsRow w.heap.size 25 3 v ((rk zs).getD []).length (cellsV ((rk zs).getD [])) ∧ Below w.heap.size w w'
theorem ansJ_no {w w1 : World} {zs : List Int} (h : rk zs = none) (hb : Below w.heap.size w w1) : AnsJ w zs (.returned (.tuple #[.slice (some ⟨w1.heap.size, 0, none⟩) 0 0, .bool false])) (w1.alloc (.cells #[] 25)) := by
  unfold AnsJ
  rw [h]
  exact ⟨_, rfl, World.ownsRow_lit w1 #[] 0 hb.size (Nat.zero_le _) rfl, hb.alloc hb.size _⟩
theorem ansJ_no2 {w wr : World} {zs : List Int} (o : Obj) (h : rk zs = none) (hb : Below w.heap.size w wr) : AnsJ w zs (.returned (.tuple #[.slice (some ⟨wr.heap.size + 1, 0, none⟩) 0 0, .bool false])) ((wr.alloc o).alloc (.cells #[] 25)) := by
  have := ansJ_no (w1 := wr.alloc o) h (hb.alloc hb.size o)
  have e : (wr.alloc o).heap.size = wr.heap.size + 1 := by simp
  rw [e] at this
  exact this
theorem ansJ_yes {w w1 : World} {zs : List Int} {v : Value} {l : List VV} (h : rk zs = some l) (ho : w1.ownsRow w.heap.size 25 3 v l.length (cellsV l)) (hb : Below w.heap.size w w1) : AnsJ w zs (.returned (.tuple #[v, .bool true])) w1 := by
  unfold AnsJ
  rw [h]
  exact ⟨_, rfl, ho, hb⟩
set_option maxRecDepth 100000 in
set_option maxHeartbeats 4000000 in
theorem c_lRK (zs : List Int) (w : World) (hz : ∀ z ∈ zs, 0 ≤ z ∧ z < 256) (hn : zs.length ≤ 65536) :
    Calls Try.prog 60 #[.string (strOfNums zs)] w (AnsJ w zs) := by
  have hown0 : (w.alloc (.cells #[] 25)).ownsRow w.heap.size 25 3 (.slice (some ⟨w.heap.size, 0, none⟩) 0 0) 0 [] := World.ownsRow_lit w #[] 0 (Nat.le_refl _) (Nat.zero_le _) rfl
  have hb0 : Below w.heap.size w (w.alloc (.cells #[] 25)) := (Below.refl _ _).alloc (Nat.le_refl _) _
  obtain ⟨t, ht⟩ : ∃ t, t = strOfNums zs := ⟨_, rfl⟩
  rw [← ht]
  have hts : t.size = zs.length := by rw [ht, strOfNums_size]
  have HG : Hid (∀ p (h : p < t.size), ((t[p]'h).toNat : Int) = zs.getD p 0) := by
    intro p h; subst ht; exact son_get hz h
  have HC : Hid (∀ a b, t.extract a b = strOfNums ((zs.drop a).take (b - a))) := by
    intro a b; rw [ht]; exact son_cut zs a b
  have HZ : Hid (∀ z ∈ zs, 0 ≤ z ∧ z < 256) := hz
  have HTS : Hid (t.size = zs.length) := hts
  have htn : t.size ≤ 65536 := by omega
  obtain ⟨i0, hi, hz0, hz1, hz2⟩ := info_parts info40
  clear ht hz hts hn
  go_enter Try.func60, Try.ntmps60
  go_wp2
  go_loopw [4, 5] (fun v x wr => ∃ (p : Nat) (done : List VV), p ≤ t.size ∧ x = .int .i64 (p : Int) ∧ done.length ≤ p ∧ Hid (onQ done (rk (zs.drop p)) = rk zs) ∧ wr.ownsRow w.heap.size 25 3 v done.length (cellsV done) ∧ Below w.heap.size w wr) (fun _ x _ => t.size - (intOf x).toNat)
  case atStart => exact ⟨0, [], by omega, rfl, by simp, onQ_start _, hown0, hb0⟩
  case round =>
    obtain ⟨p, done, hp, rfl, hdl, HON, hown, hb⟩ := hrel
    obtain ⟨av, cv, hv⟩ := own_slice' hown
    subst hv
    have hbs : w.heap.size ≤ wr.heap.size := hb.size
    clear hown0 hb0
    by_cases hpt : p < t.size
    · obtain ⟨z, hz⟩ : ∃ z : Int, z = ((t[p]'hpt).toNat : Int) := ⟨_, rfl⟩
      have hzb : 0 ≤ z ∧ z < 256 := by rw [hz]; have := (t[p]'hpt).toNat_lt; omega
      have HDR : Hid (zs.drop p = z :: zs.drop (p + 1)) := by
        have hpl : p < zs.length := by have := HTS.out; omega
        unfold Hid
        rw [List.drop_eq_getElem_cons hpl, hz, HG.out p hpt, List.getD_eq_getElem?_getD, List.getElem?_eq_getElem hpl]
        rfl
      have hix : ∀ wx : World, (Instr.index 9 (.string t) (.int .i64 (p : Int))).run Try.prog wx = .ok (.int .u8 z) wx := fun wx => by
        rw [run_index_string _ _ _ _ _ Try.underlying9, hz]
        simp [hpt]
      obtain ⟨r, hr⟩ : ∃ r, r = zs.drop (p + 1) := ⟨_, rfl⟩
      have HRR : Hid (r = zs.drop (p + 1)) := hr
      have HRL : Hid (r.length + (p + 1) = t.size) := by unfold Hid; rw [hr, List.length_drop]; have := HTS.out; omega
      clear hz hr
      have hxs0 : (⟨#[]⟩ : ByteArray).size ≤ maxLen := by decide
      by_cases h1 : z = 1
      · subst h1
        have hp : pv 1 (zs.drop (p + 1)) = chk (0, 0, ⟨#[]⟩) 1 := pv1 _
        have hxs := hxs0
        have A := c_specOK (0) (0) (⟨#[]⟩ : ByteArray)
        cases hv : valB (0) (0) (⟨#[]⟩ : ByteArray)
        · have E : Hid (rk zs = none) := by unfold Hid; rw [← HON.out, HDR.out, rk_none (by rw [hp]; exact chk_no hv), onQ_none]
          rw [hv] at A
          clear hp hv HON
          go_wp2_with fail
          refine (A _ hxs).mono ?_
          rintro e w2 ⟨rfl, hb2⟩
          have hq2 : Below w.heap.size w w2 := (hb.alloc hbs _).trans (hb2.mono (by simp; omega))
          clear A hb2 hown hb
          go_wp2
          go_ret2
          exact ansJ_no E.out hq2
        · have HST : Hid (onQ (done ++ [(0, 0, (⟨#[]⟩ : ByteArray))]) (rk (zs.drop (p + (1)))) = rk zs) := by
            unfold Hid
            rw [← HON.out, HDR.out, onQ_step (hp.trans (chk_yes hv)), List.drop_drop, show p + 1 + (1 - 1) = p + (1) by omega]
          rw [hv] at A
          clear hp hv HON
          go_wp2_with fail
          refine (A _ hxs).mono ?_
          rintro e w2 ⟨rfl, hb2⟩
          have hq2 : Below w.heap.size w w2 := (hb.alloc hbs _).trans (hb2.mono (by simp; omega))
          have hx2 : Box w2 wr.heap.size 25 #[.int .i64 (0), .int .i64 (0), .string (⟨#[]⟩ : ByteArray)] := (Box.new wr _ _).belowS hb2
          have ho2 : w2.ownsRow w.heap.size 25 3 (.slice av done.length cv) done.length (cellsV done) := own_below (own_below hown ((Below.refl _ _).alloc (Nat.le_refl _) _)) hb2
          obtain ⟨y0, y1, y2, _, _, _⟩ := box3 hx2
          have sw2 : w.heap.size ≤ w2.heap.size := hq2.size
          clear A hb2 hown hb hx2
          go_wp2_with (at_builtin; refine app_any _ rfl (.tmp 72) (.tmp 74) 44 rfl w.heap.size 25 i0 (.agg #[.int .i64 0, .int .i64 0, .string ⟨#[]⟩]) 3 32 Try.underlying44 hi hz0 hz1 hz2 rfl (by omega) (.slice av done.length cv) done.length (cellsV done) rfl (ho2.alloc _) (some ⟨w2.heap.size, 0, none⟩) 1 1 [.int .i64 (0), .int .i64 (0), .string (⟨#[]⟩ : ByteArray)] rfl (fun h => by cases h) rfl (fun ad e => by cases e; exact cells3 _ _ _ _ _) (by intro u hu; simp at hu; rcases hu with rfl | rfl | rfl <;> rfl) (by unfold maxLen; omega) (by omega) (by simp; omega) ?_; intro a5 c5 w5 ho hg hkk)
          have hb5 : Below w.heap.size w w5 := (hq2.alloc sw2 _).grown hg (by simp; omega) (fun x e => (ho2.lt x e).1)
          have HLD : Hid ((done ++ [(0, 0, (⟨#[]⟩ : ByteArray))]).length = done.length + 1) := by unfold Hid; simp
          have ho5 : w5.ownsRow w.heap.size 25 3 (.slice a5 (done.length + 1) c5) (done ++ [(0, 0, (⟨#[]⟩ : ByteArray))]).length (cellsV (done ++ [(0, 0, (⟨#[]⟩ : ByteArray))])) := by
            rw [cellsV_append, HLD.out]; exact ho
          clear ho hg hkk
          go_wp2
          go_roundw
          case rel => exact ⟨p + (1), done ++ [(0, 0, (⟨#[]⟩ : ByteArray))], by omega, by go_num, by rw [HLD.out]; omega, HST, ho5, hb5⟩
          case measure => simp [intOf]; omega
      · by_cases h2 : z = 2
        · subst h2
          by_cases h4 : r.length < 4
          · have E : Hid (rk zs = none) := by unfold Hid; rw [← HON.out, HDR.out, ← HRR.out, rk_none (pv2 h4), onQ_none]
            have g4 : (t.size : Int) < (p : Int) + 1 + 4 := by have := HRL.out; omega
            have g4' : (t.size : Int) < (p : Int) + 5 := by have := HRL.out; omega
            clear HON hown
            go_wp2
            go_ret2
            exact ansJ_no2 _ E.out hb
          · obtain ⟨y, hy⟩ : ∃ y, y = strOfNums (r.take 4) := ⟨_, rfl⟩
            have hex : t.extract (p + 1) (p + 5) = y := by rw [HC.out, hy, HRR.out, show p + 5 - (p + 1) = 4 by omega]
            have hex' : t.extract (p + 1) (p + 1 + 4) = y := hex
            obtain ⟨M, hM⟩ : ∃ M, M = ofL (r.take 4) := ⟨_, rfl⟩
            have hzr : ∀ x ∈ r.take 4, 0 ≤ x ∧ x < 256 := fun x hx => HZ.out x (by have := List.mem_of_mem_take hx; rw [HRR.out] at this; exact List.mem_of_mem_drop this)
            have OF : Hid (∀ W : World, Calls Try.prog 83 #[.string y] W fun e w' => e = .returned (.int .i64 M) ∧ w' = W) := fun W => by rw [hy, hM]; exact c_of (r.take 4) W hzr (by simp; omega)
            have hMb : 0 ≤ M ∧ M < 4294967296 := by
              have := ofL_bd hzr 4 (by simp; omega)
              rw [List.take_take, Nat.min_self, ← hM] at this
              simpa using this
            have hp : pv 2 (zs.drop (p + 1)) = chk (1, M - 1000000000, (⟨#[]⟩ : ByteArray)) 5 := by rw [← HRR.out, pv2' h4, hM]
            have g4 : (p : Int) + 1 + 4 ≤ (t.size : Int) := by have := HRL.out; omega
            have g4' : (p : Int) + 5 ≤ (t.size : Int) := by have := HRL.out; omega
            have g5 : p + 5 ≤ t.size := by omega
            have hxs := hxs0
            clear hy hM hzr h4
            have A := c_specOK (1) (M - 1000000000) (⟨#[]⟩ : ByteArray)
            cases hv : valB (1) (M - 1000000000) (⟨#[]⟩ : ByteArray)
            · have E : Hid (rk zs = none) := by unfold Hid; rw [← HON.out, HDR.out, rk_none (by rw [hp]; exact chk_no hv), onQ_none]
              rw [hv] at A
              clear hp hv HON
              go_wp2_with fail
              refine (OF.out _).mono ?_
              rintro e w1 ⟨rfl, rfl⟩
              go_wp2_with fail
              refine (A _ hxs).mono ?_
              rintro e w2 ⟨rfl, hb2⟩
              have hq2 : Below w.heap.size w w2 := (hb.alloc hbs _).trans (hb2.mono (by simp; omega))
              clear A hb2 hown hb
              go_wp2
              go_ret2
              exact ansJ_no E.out hq2
            · have HST : Hid (onQ (done ++ [(1, M - 1000000000, (⟨#[]⟩ : ByteArray))]) (rk (zs.drop (p + (5)))) = rk zs) := by
                unfold Hid
                rw [← HON.out, HDR.out, onQ_step (hp.trans (chk_yes hv)), List.drop_drop, show p + 1 + (5 - 1) = p + (5) by omega]
              rw [hv] at A
              clear hp hv HON
              go_wp2_with fail
              refine (OF.out _).mono ?_
              rintro e w1 ⟨rfl, rfl⟩
              go_wp2_with fail
              refine (A _ hxs).mono ?_
              rintro e w2 ⟨rfl, hb2⟩
              have hq2 : Below w.heap.size w w2 := (hb.alloc hbs _).trans (hb2.mono (by simp; omega))
              have hx2 : Box w2 wr.heap.size 25 #[.int .i64 (1), .int .i64 (M - 1000000000), .string (⟨#[]⟩ : ByteArray)] := (Box.new wr _ _).belowS hb2
              have ho2 : w2.ownsRow w.heap.size 25 3 (.slice av done.length cv) done.length (cellsV done) := own_below (own_below hown ((Below.refl _ _).alloc (Nat.le_refl _) _)) hb2
              obtain ⟨y0, y1, y2, _, _, _⟩ := box3 hx2
              have sw2 : w.heap.size ≤ w2.heap.size := hq2.size
              clear A hb2 hown hb hx2
              go_wp2_with (at_builtin; refine app_any _ rfl (.tmp 72) (.tmp 74) 44 rfl w.heap.size 25 i0 (.agg #[.int .i64 0, .int .i64 0, .string ⟨#[]⟩]) 3 32 Try.underlying44 hi hz0 hz1 hz2 rfl (by omega) (.slice av done.length cv) done.length (cellsV done) rfl (ho2.alloc _) (some ⟨w2.heap.size, 0, none⟩) 1 1 [.int .i64 (1), .int .i64 (M - 1000000000), .string (⟨#[]⟩ : ByteArray)] rfl (fun h => by cases h) rfl (fun ad e => by cases e; exact cells3 _ _ _ _ _) (by intro u hu; simp at hu; rcases hu with rfl | rfl | rfl <;> rfl) (by unfold maxLen; omega) (by omega) (by simp; omega) ?_; intro a5 c5 w5 ho hg hkk)
              have hb5 : Below w.heap.size w w5 := (hq2.alloc sw2 _).grown hg (by simp; omega) (fun x e => (ho2.lt x e).1)
              have HLD : Hid ((done ++ [(1, M - 1000000000, (⟨#[]⟩ : ByteArray))]).length = done.length + 1) := by unfold Hid; simp
              have ho5 : w5.ownsRow w.heap.size 25 3 (.slice a5 (done.length + 1) c5) (done ++ [(1, M - 1000000000, (⟨#[]⟩ : ByteArray))]).length (cellsV (done ++ [(1, M - 1000000000, (⟨#[]⟩ : ByteArray))])) := by
                rw [cellsV_append, HLD.out]; exact ho
              clear ho hg hkk
              go_wp2
              go_roundw
              case rel => exact ⟨p + (5), done ++ [(1, M - 1000000000, (⟨#[]⟩ : ByteArray))], by omega, by go_num, by rw [HLD.out]; omega, HST, ho5, hb5⟩
              case measure => simp [intOf]; omega
        · have e0 : (z - 1 == 0) = false := by rw [beq_eq_false_iff_ne]; omega
          have e1 : (z - 1 == 1) = false := by rw [beq_eq_false_iff_ne]; omega
          have H1 : Hid (¬ z = 1) := h1
          have H2 : Hid (¬ z = 2) := h2
          clear h1 h2
          go_wp2
          go_loop [7] (fun kk => ∃ q : Nat, p + 1 ≤ q ∧ q ≤ t.size ∧ kk = .int .i64 (q : Int) ∧ Hid (q + zi (zs.drop q) = p + 1 + zi r)) (fun kk => t.size - (intOf kk).toNat)
          case atStart => exact ⟨p + 1, by omega, by omega, by go_num, by rw [HRR.out]; rfl⟩
          case round =>
            obtain ⟨q, hq1, hq2, rfl, HQ⟩ := hrel
            by_cases hqt : q < t.size
            · obtain ⟨y, hy⟩ : ∃ y : Int, y = ((t[q]'hqt).toNat : Int) := ⟨_, rfl⟩
              have hiy : ∀ wx : World, (Instr.index 9 (.string t) (.int .i64 (q : Int))).run Try.prog wx = .ok (.int .u8 y) wx := fun wx => by
                rw [run_index_string _ _ _ _ _ Try.underlying9, hy]
                simp [hqt]
              have HDQ : Hid (zs.drop q = y :: zs.drop (q + 1)) := by
                have hpl : q < zs.length := by have := HTS.out; omega
                unfold Hid
                rw [List.drop_eq_getElem_cons hpl, hy, HG.out q hqt, List.getD_eq_getElem?_getD, List.getElem?_eq_getElem hpl]
                rfl
              clear hy
              by_cases hy0 : y = 0
              · subst hy0
                obtain ⟨f, hf⟩ : ∃ f, f = zi r := ⟨_, rfl⟩
                have hqf : p + 1 + f = q := by have := HQ.out; rw [HDQ.out, zi, if_pos rfl, ← hf] at this; omega
                obtain ⟨X, hX⟩ : ∃ X, X = strOfNums (r.take f) := ⟨_, rfl⟩
                have hfr : ¬ zi r = r.length := by have := HRL.out; omega
                have hp : pv z (zs.drop (p + 1)) = chk (z - 1, 0, X) (f + 2) := by rw [← HRR.out, pvd H1.out H2.out hfr, hX, hf]
                have hex : t.extract (p + 1) q = X := by rw [HC.out, hX, HRR.out, show q - (p + 1) = f by omega]
                have hxs : X.size ≤ maxLen := by rw [hX, strOfNums_size]; unfold maxLen; simp; have := HRL.out; omega
                have hqt2 : ((q : Int) == (t.size : Int)) = false := by rw [beq_eq_false_iff_ne]; omega
                clear hX hf hfr HQ HDQ
                have A := c_specOK (z - 1) (0) X
                cases hv : valB (z - 1) (0) X
                · have E : Hid (rk zs = none) := by unfold Hid; rw [← HON.out, HDR.out, rk_none (by rw [hp]; exact chk_no hv), onQ_none]
                  rw [hv] at A
                  clear hp hv HON
                  go_wp2_with fail
                  refine (A _ hxs).mono ?_
                  rintro e w2 ⟨rfl, hb2⟩
                  have hq2 : Below w.heap.size w w2 := (hb.alloc hbs _).trans (hb2.mono (by simp; omega))
                  clear A hb2 hown hb
                  go_wp2
                  go_ret2
                  exact ansJ_no E.out hq2
                · have HST : Hid (onQ (done ++ [(z - 1, 0, X)]) (rk (zs.drop (p + (f + 2)))) = rk zs) := by
                    unfold Hid
                    rw [← HON.out, HDR.out, onQ_step (hp.trans (chk_yes hv)), List.drop_drop, show p + 1 + (f + 2 - 1) = p + (f + 2) by omega]
                  rw [hv] at A
                  clear hp hv HON
                  go_wp2_with fail
                  refine (A _ hxs).mono ?_
                  rintro e w2 ⟨rfl, hb2⟩
                  have hq2 : Below w.heap.size w w2 := (hb.alloc hbs _).trans (hb2.mono (by simp; omega))
                  have hx2 : Box w2 wr.heap.size 25 #[.int .i64 (z - 1), .int .i64 (0), .string X] := (Box.new wr _ _).belowS hb2
                  have ho2 : w2.ownsRow w.heap.size 25 3 (.slice av done.length cv) done.length (cellsV done) := own_below (own_below hown ((Below.refl _ _).alloc (Nat.le_refl _) _)) hb2
                  obtain ⟨y0, y1, y2, _, _, _⟩ := box3 hx2
                  have sw2 : w.heap.size ≤ w2.heap.size := hq2.size
                  clear A hb2 hown hb hx2
                  go_wp2_with (at_builtin; refine app_any _ rfl (.tmp 72) (.tmp 74) 44 rfl w.heap.size 25 i0 (.agg #[.int .i64 0, .int .i64 0, .string ⟨#[]⟩]) 3 32 Try.underlying44 hi hz0 hz1 hz2 rfl (by omega) (.slice av done.length cv) done.length (cellsV done) rfl (ho2.alloc _) (some ⟨w2.heap.size, 0, none⟩) 1 1 [.int .i64 (z - 1), .int .i64 (0), .string X] rfl (fun h => by cases h) rfl (fun ad e => by cases e; exact cells3 _ _ _ _ _) (by intro u hu; simp at hu; rcases hu with rfl | rfl | rfl <;> rfl) (by unfold maxLen; omega) (by omega) (by simp; omega) ?_; intro a5 c5 w5 ho hg hkk)
                  have hb5 : Below w.heap.size w w5 := (hq2.alloc sw2 _).grown hg (by simp; omega) (fun x e => (ho2.lt x e).1)
                  have HLD : Hid ((done ++ [(z - 1, 0, X)]).length = done.length + 1) := by unfold Hid; simp
                  have ho5 : w5.ownsRow w.heap.size 25 3 (.slice a5 (done.length + 1) c5) (done ++ [(z - 1, 0, X)]).length (cellsV (done ++ [(z - 1, 0, X)])) := by
                    rw [cellsV_append, HLD.out]; exact ho
                  clear ho hg hkk
                  go_wp2
                  go_roundw
                  case rel => exact ⟨p + (f + 2), done ++ [(z - 1, 0, X)], by omega, by go_num, by rw [HLD.out]; omega, HST, ho5, hb5⟩
                  case measure => simp [intOf]; omega
              · have HQ' : Hid (q + 1 + zi (zs.drop (q + 1)) = p + 1 + zi r) := by have := HQ.out; rw [HDQ.out, zi, if_neg hy0] at this; unfold Hid; omega
                have ey : (y == 0) = false := by rw [beq_eq_false_iff_ne]; exact hy0
                clear hy0
                go_wp2
                go_round
                case rel => exact ⟨q + 1, by omega, by omega, by go_num, HQ'⟩
                case measure => simp [intOf]; omega
            · have eq : q = t.size := by omega
              have E : Hid (rk zs = none) := by
                unfold Hid
                rw [← HON.out, HDR.out, ← HRR.out, rk_none (pvd_none H1.out H2.out ?_), onQ_none]
                have := HQ.out
                rw [List.drop_of_length_le (by have := HTS.out; omega)] at this
                have h0 : zi [] = 0 := rfl
                have := HRL.out
                omega
              have hqt2 : ((q : Int) == (t.size : Int)) = true := by rw [beq_iff_eq]; omega
              clear HON hown eq
              go_wp2
              go_ret2
              exact ansJ_no2 _ E.out hb
    · have e : p = t.size := by omega
      have E : Hid (rk zs = some done) := by unfold Hid; rw [← HON.out, List.drop_of_length_le (by have := HTS.out; omega), rk_nil, onQ_nil]
      clear e
      go_wp2
      go_ret2
      exact ansJ_yes E.out hown hb

end Go.Proofs.Ytkfkhfagehcmiaa
