/-
  Keys that are read: what both answer; the walk of the program's ReadKey.
-/
import Derived.Test.YtkfkhfagehcmiaaDoorKg
namespace Go.Proofs.YtkfkhfagehcmiaaDoor
open Go Go.RowKit
attribute [local go_sem ↓] Go.wp_at_zero Go.wp_at_succ


/-- All values of the bytes. -/
def rk : List Int → Option (List VV)
  | [] => some []
  | z :: r => match pv z r with
    | none => none
    | some p => (rk (r.drop (p.2 - 1))).map (p.1 :: ·)
termination_by l => l.length
decreasing_by simp; omega
theorem rk_nil : rk [] = some [] := by rw [rk]
theorem rk_none {z : Int} {r : List Int} (h : pv z r = none) : rk (z :: r) = none := by rw [rk, h]
theorem rk_step {z : Int} {r : List Int} {v : VV} {s : Nat} (h : pv z r = some (v, s)) : rk (z :: r) = (rk (r.drop (s - 1))).map (v :: ·) := by rw [rk, h]
def onQ (done : List VV) (o : Option (List VV)) : Option (List VV) := o.map (done ++ ·)
theorem onQ_none (done : List VV) : onQ done none = none := rfl
theorem onQ_nil (done : List VV) : onQ done (some []) = some done := by simp [onQ]
theorem onQ_start (o : Option (List VV)) : onQ [] o = o := by cases o <;> simp [onQ]
theorem onQ_step {done : List VV} {z : Int} {r : List Int} {v : VV} {s : Nat} (h : pv z r = some (v, s)) : onQ done (rk (z :: r)) = onQ (done ++ [v]) (rk (r.drop (s - 1))) := by
  rw [rk_step h]
  cases rk (r.drop (s - 1)) <;> simp [onQ]
theorem cellsV_append (us vs : List VV) : cellsV (us ++ vs) = cellsV us ++ cellsV vs := by unfold cellsV; rw [List.flatMap_append]
def errQ (zs : List Int) : Int := if 65536 < zs.length then 2 else match rk zs with
  | none => 3
  | some l => if 4096 < l.length then 6 else 0
def resQ (zs : List Int) : List VV := if 65536 < zs.length then [] else match rk zs with
  | none => []
  | some l => if 4096 < l.length then [] else l
theorem ansQ2 {zs : List Int} (h : 65536 < zs.length) : errQ zs = 2 ∧ resQ zs = [] := by unfold errQ resQ; rw [if_pos h, if_pos h]; exact ⟨rfl, rfl⟩
theorem ansQ3 {zs : List Int} (h : ¬ 65536 < zs.length) (h' : rk zs = none) : errQ zs = 3 ∧ resQ zs = [] := by unfold errQ resQ; rw [if_neg h, if_neg h, h']; exact ⟨rfl, rfl⟩
theorem ansQ6 {zs : List Int} {l : List VV} (h : ¬ 65536 < zs.length) (h' : rk zs = some l) (hl : 4096 < l.length) : errQ zs = 6 ∧ resQ zs = [] := by unfold errQ resQ; rw [if_neg h, if_neg h, h']; simp [hl]
theorem ansQ0 {zs : List Int} {l : List VV} (h : ¬ 65536 < zs.length) (h' : rk zs = some l) (hl : ¬ 4096 < l.length) : errQ zs = 0 ∧ resQ zs = l := by unfold errQ resQ; rw [if_neg h, if_neg h, h']; simp [hl]
def AnsQ (w : World) (zs : List Int) (e : Ending) (w' : World) : Prop :=
  ∃ a cap, e = .returned (.tuple #[.slice a (resQ zs).length cap, .int .i64 (errQ zs)]) ∧ w'.ownsRow w.heap.size 27 3 (.slice a (resQ zs).length cap) (resQ zs).length (cellsV (resQ zs)) ∧ Below w.heap.size w w'
theorem ansQ_nil {w w' : World} {zs : List Int} {c : Int} (h : errQ zs = c ∧ resQ zs = []) (hb : Below w.heap.size w w') : AnsQ w zs (.returned (.tuple #[.slice none 0 0, .int .i64 c])) w' := by
  unfold AnsQ
  rw [h.1, h.2]
  exact ⟨none, 0, rfl, World.ownsRow_nil _ _ _ _, hb⟩
theorem ansQ_empty {w w1 : World} {zs : List Int} {c : Int} (h : errQ zs = c ∧ resQ zs = []) (hb : Below w.heap.size w w1) : AnsQ w zs (.returned (.tuple #[.slice (some ⟨w1.heap.size, 0, none⟩) 0 0, .int .i64 c])) (w1.alloc (.cells #[] 27)) := by
  unfold AnsQ
  rw [h.1, h.2]
  exact ⟨_, 0, rfl, World.ownsRow_lit w1 #[] 0 hb.size (Nat.zero_le _) rfl, hb.alloc hb.size _⟩
theorem ansQ_own {w w' : World} {zs : List Int} {v : Value} {l : List VV} (h : errQ zs = 0 ∧ resQ zs = l) (ho : w'.ownsRow w.heap.size 27 3 v l.length (cellsV l)) (hb : Below w.heap.size w w') : AnsQ w zs (.returned (.tuple #[v, .int .i64 0])) w' := by
  unfold AnsQ
  rw [h.1, h.2]
  obtain ⟨a, c, rfl⟩ := own_slice' ho
  exact ⟨a, c, rfl, ho, hb⟩
theorem cells3 (w : World) (v0 v1 v2 : Value) (t : TypeId) : ∀ j u, [v0, v1, v2][j]? = some u → (w.alloc (.cells #[v0, v1, v2] t)).cell? ((⟨w.heap.size, 0, none⟩ : Addr).add j) = some u := by
  intro j u h
  have hb := Box.new w #[v0, v1, v2] t
  have e : (⟨w.heap.size, 0, none⟩ : Addr).add j = ⟨w.heap.size, j, none⟩ := by unfold Addr.add; split <;> simp_all
  rw [e, hb.cell]
  simpa using h
theorem c_first_none {z : Int} {r : List Int} (hp : pv z r = none) (b off n cap : Nat) (w : World) (hr : RdV w (some ⟨b, off, none⟩) n ((z :: r).map (Value.int .u8))) (hz : ∀ y ∈ z :: r, 0 ≤ y ∧ y < 256) (hcap : n ≤ cap) (hcm : cap ≤ 9223372036854775807) (hn : n ≤ 65536) :
    Calls Tryd.prog 25 #[.slice (some ⟨b, off, none⟩) n cap] w fun e w' => e = .returned (.tuple #[.agg #[.int .i64 0, .int .i64 0, .string ⟨#[]⟩], .int .i64 0]) ∧ Below w.heap.size w w' := by
  have := c_first b off n cap z r w hr hz hcap hcm hn
  unfold AnsV fvV fvS at this
  rw [hp] at this
  exact this
theorem c_first_some {z : Int} {r : List Int} {k nn : Int} {t : ByteArray} {s : Nat} (hp : pv z r = some ((k, nn, t), s)) (b off n cap : Nat) (w : World) (hr : RdV w (some ⟨b, off, none⟩) n ((z :: r).map (Value.int .u8))) (hz : ∀ y ∈ z :: r, 0 ≤ y ∧ y < 256) (hcap : n ≤ cap) (hcm : cap ≤ 9223372036854775807) (hn : n ≤ 65536) :
    Calls Tryd.prog 25 #[.slice (some ⟨b, off, none⟩) n cap] w fun e w' => e = .returned (.tuple #[.agg #[.int .i64 k, .int .i64 nn, .string t], .int .i64 (s : Nat)]) ∧ Below w.heap.size w w' := by
  have := c_first b off n cap z r w hr hz hcap hcm hn
  unfold AnsV fvV fvS at this
  rw [hp] at this
  exact this
def lenV : Value → Nat
  | .slice _ m _ => m
  | _ => 0
set_option maxRecDepth 100000 in
set_option maxHeartbeats 4000000 in
theorem c_implQ (a : Option Addr) (n cap : Nat) (zs : List Int) (w : World) (hr : RdV w a n (zs.map (Value.int .u8))) (hz : ∀ z ∈ zs, 0 ≤ z ∧ z < 256) (hn : n ≤ 1048576) (hcap : n ≤ cap) (hcm : cap ≤ 9223372036854775807) :
    Calls Tryd.prog 12 #[.slice a n cap] w (AnsQ w zs) := by
  have hl : zs.length = n := by simpa using hr.1
  have HR : Hid (RdV w a n (zs.map (Value.int .u8))) := hr
  have HZ : Hid (∀ z ∈ zs, 0 ≤ z ∧ z < 256) := hz
  obtain ⟨i0, hi, hz0, hz1, hz2⟩ := info_parts info40
  clear hr hz
  by_cases h6 : 65536 < n
  · have E : Hid (errQ zs = 2 ∧ resQ zs = []) := ansQ2 (by omega)
    go_enter Tryd.func12, Tryd.ntmps12
    go_wp2
    go_ret2
    exact ansQ_nil E.out (Below.refl _ _)
  · have HL : Hid (¬ 65536 < zs.length) := by unfold Hid; omega
    go_enter Tryd.func12, Tryd.ntmps12
    go_wp2
    go_loopw [4, 5] (fun v s wr => ∃ (zr : List Int) (done : List VV) (a' : Option Addr) (m cap' : Nat), s = .slice a' m cap' ∧ zr.length = m ∧ m ≤ cap' ∧ cap' ≤ 9223372036854775807 ∧ m ≤ 65536 ∧ Hid (RdV w a' m (zr.map (Value.int .u8))) ∧ Hid (∀ z ∈ zr, 0 ≤ z ∧ z < 256) ∧ done.length + m ≤ 65536 ∧ Hid (onQ done (rk zr) = rk zs) ∧ wr.ownsRow w.heap.size 27 3 v done.length (cellsV done) ∧ Below w.heap.size w wr) (fun _ s _ => lenV s)
    case atStart => exact ⟨zs, [], a, n, cap, rfl, hl, hcap, hcm, by omega, HR, HZ, by simp; omega, onQ_start _, World.ownsRow_nil _ _ _ _, Below.refl _ _⟩
    case round =>
      obtain ⟨zr, done, a', m, cap', rfl, hzl, hmc, hcm', hm6, HRZ, HZR, hdl, HON, hown, hb⟩ := hrel
      have hbs : w.heap.size ≤ wr.heap.size := hb.size
      obtain ⟨av, cv, hv⟩ := own_slice' hown
      subst hv
      by_cases hm0 : m = 0
      · obtain rfl : zr = [] := List.length_eq_zero_iff.1 (by omega)
        have HRK : Hid (rk zs = some done) := by unfold Hid; rw [← HON.out, rk_nil, onQ_nil]
        have hm1 : ¬ (0 : Int) < (m : Int) := by omega
        clear HON
        by_cases h4 : 4096 < done.length
        · have E : Hid (errQ zs = 6 ∧ resQ zs = []) := ansQ6 HL.out HRK.out h4
          go_wp2
          go_ret2
          exact ansQ_nil E.out hb
        · have E : Hid (errQ zs = 0 ∧ resQ zs = done) := ansQ0 HL.out HRK.out h4
          go_wp2
          go_ret2
          exact ansQ_own E.out hown hb
      · obtain ⟨b2, o2, rfl, hbl2, _⟩ := HRZ.out.2 (by omega)
        obtain ⟨z, r, hzr⟩ : ∃ z r, zr = z :: r := by cases zr with | nil => simp at hzl; omega | cons z r => exact ⟨z, r, rfl⟩
        subst hzr
        have hrl : r.length + 1 = m := by simpa using hzl
        have hm1 : (0 : Int) < (m : Int) := by omega
        have HR0 : Hid (RdV wr (some ⟨b2, o2, none⟩) m ((z :: r).map (Value.int .u8))) := HRZ.out.below hb
        have HB0 : Hid (Below w.heap.size w wr) := hb
        have HO0 : Hid (wr.ownsRow w.heap.size 27 3 (.slice av done.length cv) done.length (cellsV done)) := hown
        clear hzl
        cases hp : pv z r with
        | none =>
          have E : Hid (errQ zs = 3 ∧ resQ zs = []) := ansQ3 HL.out (by rw [← HON.out, rk_none hp, onQ_none])
          have C : Hid (Calls Tryd.prog 25 #[.slice (some ⟨b2, o2, none⟩) m cap'] wr fun e w' => e = .returned (.tuple #[.agg #[.int .i64 0, .int .i64 0, .string ⟨#[]⟩], .int .i64 0]) ∧ Below wr.heap.size wr w') := c_first_none hp b2 o2 m cap' wr HR0.out HZR.out hmc hcm' hm6
          clear hp HON hown hb
          go_wp2_with fail
          refine C.out.mono ?_
          rintro e w1 ⟨rfl, hb1⟩
          have hq1 : Below w.heap.size w w1 := HB0.out.trans (hb1.mono HB0.out.size)
          clear hb1 C
          go_wp2
          go_ret2
          exact ansQ_nil E.out (hq1.alloc hq1.size _)
        | some p =>
          obtain ⟨⟨k, nn, t⟩, s⟩ := p
          obtain ⟨s1, s2⟩ := pv_size hp
          have HST : Hid (onQ (done ++ [(k, nn, t)]) (rk (r.drop (s - 1))) = rk zs) := by unfold Hid; rw [← onQ_step hp]; exact HON.out
          have C : Hid (Calls Tryd.prog 25 #[.slice (some ⟨b2, o2, none⟩) m cap'] wr fun e w' => e = .returned (.tuple #[.agg #[.int .i64 k, .int .i64 nn, .string t], .int .i64 (s : Nat)]) ∧ Below wr.heap.size wr w') := c_first_some hp b2 o2 m cap' wr HR0.out HZR.out hmc hcm' hm6
          have HQ : Hid (RdV w (some ⟨b2, o2 + s, none⟩) (m - s) ((r.drop (s - 1)).map (Value.int .u8))) := by
            have := HRZ.out.cut s (m - s) (by omega)
            rw [show s = s - 1 + 1 by omega, List.drop_succ_cons, List.take_of_length_le (by simp; omega)] at this
            rw [show s - 1 + 1 = s by omega] at this
            exact this
          have HZD : Hid (∀ z ∈ r.drop (s - 1), 0 ≤ z ∧ z < 256) := fun z hz => HZR.out z (List.mem_cons_of_mem _ (List.mem_of_mem_drop hz))
          have q0 : ((s : Int) == 0) = false := by rw [beq_eq_false_iff_ne]; omega
          have q1 : (0 : Int) ≤ (s : Int) := by omega
          have q2 : (s : Int) ≤ (m : Int) := by omega
          clear hp HON hown hb
          go_wp2_with fail
          refine C.out.mono ?_
          rintro e w1 ⟨rfl, hb1⟩
          have hq1 : Below w.heap.size w w1 := HB0.out.trans (hb1.mono HB0.out.size)
          have ho1 : w1.ownsRow w.heap.size 27 3 (.slice av done.length cv) done.length (cellsV done) := own_below HO0.out hb1
          obtain ⟨V, hV⟩ : ∃ V, w1.alloc (.cells #[.int .i64 k, .int .i64 nn, .string t] 27) = V := ⟨_, rfl⟩
          have hbV : Below w1.heap.size w1 V := by rw [← hV]; exact (Below.refl _ _).alloc (Nat.le_refl _) _
          have hxV : Box V w1.heap.size 27 #[.int .i64 k, .int .i64 nn, .string t] := by rw [← hV]; exact Box.new w1 _ _
          have HBV : Hid (Below w.heap.size w V) := hq1.trans (hbV.mono hq1.size)
          have HOV : Hid (V.ownsRow w.heap.size 27 3 (.slice av done.length cv) done.length (cellsV done)) := own_below ho1 hbV
          have swV : w.heap.size ≤ V.heap.size := HBV.out.size
          obtain ⟨v0, v1, v2, _, _, _⟩ := box3 hxV
          clear hb1 C ho1 hxV hbV
          by_cases e2 : cap' = s
          · skip
            go_wp2_with (at_builtin; refine app_any _ rfl (.tmp 22) (.tmp 24) 31 rfl w.heap.size 27 i0 (.agg #[.int .i64 0, .int .i64 0, .string ⟨#[]⟩]) 3 32 Tryd.underlying31 hi hz0 hz1 hz2 rfl (by omega) (.slice av done.length cv) done.length (cellsV done) rfl (HOV.out.alloc _) (some ⟨V.heap.size, 0, none⟩) 1 1 [.int .i64 k, .int .i64 nn, .string t] rfl (fun h => by cases h) rfl (fun ad e => by cases e; exact cells3 _ _ _ _ _) (by intro u hu; simp at hu; rcases hu with rfl | rfl | rfl <;> rfl) (by unfold maxLen; omega) (by omega) (by simp; omega) ?_; intro a5 c5 w5 ho hg hkk)
            have hb5 : Below w.heap.size w w5 := (HBV.out.alloc swV _).grown hg (by simp; omega) (fun x e => (HOV.out.lt x e).1)
            have ho5 : w5.ownsRow w.heap.size 27 3 (.slice a5 (done ++ [(k, nn, t)]).length c5) (done ++ [(k, nn, t)]).length (cellsV (done ++ [(k, nn, t)])) := by
              rw [cellsV_append, List.length_append]; exact ho
            have HLD : Hid ((done ++ [(k, nn, t)]).length = done.length + 1) := by unfold Hid; simp
            clear ho hg hkk
            go_wp2
            go_roundw
            case rel => exact ⟨r.drop (s - 1), done ++ [(k, nn, t)], _, m - s, _, rfl, by simp; omega, by omega, by omega, by omega, RdV.nil8' w _ (by rw [List.length_drop]; omega) (by omega), HZD, by rw [HLD.out]; omega, HST, (by have h5 := ho5; rw [HLD.out] at h5 ⊢; exact h5), hb5⟩
            case measure => simp [lenV]; omega
          · skip
            go_wp2_with (at_builtin; refine app_any _ rfl (.tmp 22) (.tmp 24) 31 rfl w.heap.size 27 i0 (.agg #[.int .i64 0, .int .i64 0, .string ⟨#[]⟩]) 3 32 Tryd.underlying31 hi hz0 hz1 hz2 rfl (by omega) (.slice av done.length cv) done.length (cellsV done) rfl (HOV.out.alloc _) (some ⟨V.heap.size, 0, none⟩) 1 1 [.int .i64 k, .int .i64 nn, .string t] rfl (fun h => by cases h) rfl (fun ad e => by cases e; exact cells3 _ _ _ _ _) (by intro u hu; simp at hu; rcases hu with rfl | rfl | rfl <;> rfl) (by unfold maxLen; omega) (by omega) (by simp; omega) ?_; intro a5 c5 w5 ho hg hkk)
            have hb5 : Below w.heap.size w w5 := (HBV.out.alloc swV _).grown hg (by simp; omega) (fun x e => (HOV.out.lt x e).1)
            have ho5 : w5.ownsRow w.heap.size 27 3 (.slice a5 (done ++ [(k, nn, t)]).length c5) (done ++ [(k, nn, t)]).length (cellsV (done ++ [(k, nn, t)])) := by
              rw [cellsV_append, List.length_append]; exact ho
            have HLD : Hid ((done ++ [(k, nn, t)]).length = done.length + 1) := by unfold Hid; simp
            clear ho hg hkk
            go_wp2
            go_roundw
            case rel => exact ⟨r.drop (s - 1), done ++ [(k, nn, t)], _, m - s, _, rfl, by simp; omega, by omega, by omega, by omega, HQ, HZD, by rw [HLD.out]; omega, HST, (by have h5 := ho5; rw [HLD.out] at h5 ⊢; exact h5), hb5⟩
            case measure => simp [lenV]; omega

end Go.Proofs.YtkfkhfagehcmiaaDoor
