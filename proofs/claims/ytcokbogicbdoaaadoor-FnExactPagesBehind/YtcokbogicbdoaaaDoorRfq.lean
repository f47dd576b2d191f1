/-
  The walks of ReadFields: what is read of bytes, by the program and by the specification.
-/
import Derived.Test.YtcokbogicbdoaaaDoorZzab
import Derived.Deep.AppendLies
import Derived.Laws.BytesArg
import Derived.Lib.Strings
namespace Go.Proofs.YtcokbogicbdoaaaDoor
open Go Go.RowKit

/-- Fields that are left: c of them, just these bytes. -/
def rd : Nat → List Int → Option (List ByteArray)
  | 0, [] => some []
  | 0, _ :: _ => none
  | _ + 1, [] => none
  | c + 1, z :: r => if r.length < z.toNat then none else (rd c (r.drop z.toNat)).map (strOfNums (r.take z.toNat) :: ·)
theorem rd_done {zr : List Int} : rd 0 zr = if zr.length = 0 then some [] else none := by cases zr <;> simp [rd]
theorem rd_none {c : Nat} {zr : List Int} (hc : 0 < c) (h : zr.length = 0) : rd c zr = none := by
  obtain ⟨c, rfl⟩ : ∃ c', c = c' + 1 := ⟨c - 1, by omega⟩
  cases zr
  · rfl
  · simp at h
theorem rd_short {c : Nat} {z : Int} {r : List Int} (hc : 0 < c) (h : r.length < z.toNat) : rd c (z :: r) = none := by
  obtain ⟨c, rfl⟩ : ∃ c', c = c' + 1 := ⟨c - 1, by omega⟩
  rw [rd, if_pos h]
theorem rd_step {c : Nat} {z : Int} {r : List Int} (h : ¬ r.length < z.toNat) : rd (c + 1) (z :: r) = (rd c (r.drop z.toNat)).map (strOfNums (r.take z.toNat) :: ·) := by
  rw [rd, if_neg h]
/-- What was read ahead, and what is read of the rest. -/
def onR (done : List ByteArray) (o : Option (List ByteArray)) : Option (List ByteArray) := o.map (done ++ ·)
theorem onR_step {done : List ByteArray} {c : Nat} {z : Int} {r : List Int} (h : ¬ r.length < z.toNat) : onR done (rd (c + 1) (z :: r)) = onR (done ++ [strOfNums (r.take z.toNat)]) (rd c (r.drop z.toNat)) := by
  rw [rd_step h]
  unfold onR
  cases rd c (r.drop z.toNat) <;> simp
theorem onR_none (done : List ByteArray) : onR done none = none := rfl
theorem onR_nil (done : List ByteArray) : onR done (some []) = some done := by simp [onR]
theorem onR_start (o : Option (List ByteArray)) : onR [] o = o := by cases o <;> simp [onR]

/-- The answer: the fields or none, and the code. -/
def okR (zs : List Int) : Option (List ByteArray) := match zs with
  | [] => none
  | z :: r => if 100 < z then none else rd z.toNat r
def errR (zs : List Int) : Int := if 65536 < zs.length then 2 else match okR zs with
  | none => 3
  | some _ => 0
def resR (zs : List Int) : List ByteArray := if 65536 < zs.length then [] else (okR zs).getD []
theorem ansR2 {zs : List Int} (h : 65536 < zs.length) : errR zs = 2 ∧ resR zs = [] := by unfold errR resR; rw [if_pos h, if_pos h]; exact ⟨rfl, rfl⟩
theorem ansR3 {zs : List Int} (h : ¬ 65536 < zs.length) (h' : okR zs = none) : errR zs = 3 ∧ resR zs = [] := by unfold errR resR; rw [if_neg h, if_neg h, h']; exact ⟨rfl, rfl⟩
theorem ansR0 {zs : List Int} {l : List ByteArray} (h : ¬ 65536 < zs.length) (h' : okR zs = some l) : errR zs = 0 ∧ resR zs = l := by unfold errR resR; rw [if_neg h, if_neg h, h']; exact ⟨rfl, rfl⟩

def AnsR (w : World) (zs : List Int) (e : Ending) (w' : World) : Prop :=
  ∃ a cap, e = .returned (.tuple #[.slice a (resR zs).length cap, .int .i64 (errR zs)]) ∧ w'.ownsRow w.heap.size 9 1 (.slice a (resR zs).length cap) (resR zs).length ((resR zs).map Value.string) ∧ Below w.heap.size w w'
theorem ansR_nil {w w' : World} {zs : List Int} {c : Int} (h : errR zs = c ∧ resR zs = []) (hb : Below w.heap.size w w') : AnsR w zs (.returned (.tuple #[.slice none 0 0, .int .i64 c])) w' := by
  unfold AnsR
  rw [h.1, h.2]
  exact ⟨none, 0, rfl, World.ownsRow_nil _ _ _ _, hb⟩
theorem ansR_empty {w w1 : World} {zs : List Int} {c : Int} (h : errR zs = c ∧ resR zs = []) (hb : Below w.heap.size w w1) : AnsR w zs (.returned (.tuple #[.slice (some ⟨w1.heap.size, 0, none⟩) 0 0, .int .i64 c])) (w1.alloc (.cells #[] 9)) := by
  unfold AnsR
  rw [h.1, h.2]
  exact ⟨_, 0, rfl, World.ownsRow_lit w1 #[] 0 hb.size (Nat.zero_le _) rfl, hb.alloc hb.size _⟩
theorem own_slice' {w : World} {base e size n : Nat} {v : Value} {xs : List Value} (h : w.ownsRow base e size v n xs) : ∃ a cap, v = .slice a n cap := by
  rcases own_form h with ⟨rfl, rfl⟩ | ⟨g, cap, rfl, _, _⟩
  · exact ⟨none, 0, rfl⟩
  · exact ⟨_, cap, rfl⟩
theorem ansR_own {w w' : World} {zs : List Int} {v : Value} {l : List ByteArray} (h : errR zs = 0 ∧ resR zs = l) (ho : w'.ownsRow w.heap.size 9 1 v l.length (l.map Value.string)) (hb : Below w.heap.size w w') : AnsR w zs (.returned (.tuple #[v, .int .i64 0])) w' := by
  unfold AnsR
  rw [h.1, h.2]
  obtain ⟨a, cap, rfl⟩ := own_slice' ho
  exact ⟨a, cap, rfl, ho, hb⟩

/-- A slice of bytes from l on. -/
theorem RdV.cut {w : World} {b off n : Nat} {zs : List Int} (h : RdV w (some ⟨b, off, none⟩) n (zs.map (Value.int .u8))) (l m : Nat) (hm : l + m ≤ n) : RdV w (some ⟨b, off + l, none⟩) m (((zs.drop l).take m).map (Value.int .u8)) := by
  obtain ⟨hl, hc⟩ := h
  simp only [List.length_map] at hl
  refine ⟨by simp; omega, fun hm0 => ?_⟩
  obtain ⟨b', off', e, hlt, hc⟩ := hc (by omega)
  cases e
  refine ⟨b, off + l, rfl, hlt, fun i hi => ?_⟩
  rw [Nat.add_assoc, hc (l + i) (by omega), List.getElem?_map, List.getElem?_map, List.getElem?_take_of_lt hi, List.getElem?_drop]
theorem RdV.nil8 (w : World) (a : Option Addr) : RdV w a 0 (([] : List Int).map (Value.int .u8)) := ⟨rfl, fun h => absurd h (by omega)⟩

theorem RdV.nil8' (w : World) (a : Option Addr) {l : List Int} {n : Nat} (h : l.length = 0) (hn : n = 0) : RdV w a n (l.map (Value.int .u8)) := by
  obtain rfl := List.length_eq_zero_iff.1 h
  rw [hn]
  exact RdV.nil8 w a

theorem infoS9 : (Tryd.prog.info? 9).map (fun i => (i.zero, i.size, i.bytes)) = some (some (.string ⟨#[]⟩), 1, 16) := by kernel_rfl
theorem conv8 {w : World} {a : Option Addr} {n cap : Nat} {zs : List Int} (h : RdV w a n (zs.map (Value.int .u8))) : (convert 54 9 (.slice a n cap)).run Tryd.prog w = .ok (.string (strOfNums zs)) w := by
  obtain ⟨hl, hc⟩ := h
  simp only [List.length_map] at hl
  by_cases h0 : n = 0
  · subst h0
    obtain rfl : zs = [] := List.length_eq_zero_iff.1 hl
    cases a with
    | none => exact run_convert_bytes_nil w 54 5 Tryd.underlying54 Tryd.underlying5 0 cap 9 Tryd.underlying9
    | some x =>
      have := run_convert_bytes_back (P := Tryd.prog) w 54 9 5 x cap [] Tryd.underlying54 Tryd.underlying5 Tryd.underlying9 (fun j hj => absurd hj (by simp))
      exact this
  · obtain ⟨b, off, rfl, _, hc⟩ := hc (by omega)
    exact run_convert_bytes_arg w 54 5 Tryd.underlying54 Tryd.underlying5 b off n cap zs hl (fun i hi => by rw [hc i hi]; exact map_get _ _ _ _ (by omega)) 9 Tryd.underlying9

set_option maxRecDepth 100000 in
set_option maxHeartbeats 2000000 in
theorem c_implR_lo (b off n cap : Nat) (z0 : Int) (zt : List Int) (w : World) (hr : RdV w (some ⟨b, off, none⟩) n ((z0 :: zt).map (Value.int .u8))) (hz : ∀ z ∈ z0 :: zt, 0 ≤ z ∧ z < 256) (hn : n ≤ 65536) (hcap : n ≤ cap) (hcm : cap ≤ maxLen) (h100 : ¬ 100 < z0) :
    Calls Tryd.prog 84 #[.slice (some ⟨b, off, none⟩) n cap] w (AnsR w (z0 :: zt)) := by
  unfold maxLen at hcm
  have hl : (z0 :: zt).length = n := by simpa using hr.1
  have HR : Hid (RdV w (some ⟨b, off, none⟩) n ((z0 :: zt).map (Value.int .u8))) := hr
  have h0 : 0 ≤ z0 ∧ z0 < 256 := hz z0 (List.mem_cons_self ..)
  have HZ : Hid (∀ z ∈ zt, 0 ≤ z ∧ z < 256) := fun z h => hz z (List.mem_cons_of_mem _ h)
  have hn0 : ((n : Int) == 0) = false := by simp; simp at hl; omega
  obtain ⟨b', off', e, hbl, hc⟩ := hr.2 (by simp at hl; omega)
  cases e
  have hc0 : w.cell? ⟨b, off, none⟩ = some (.int .u8 z0) := by have := hc 0 (by simp at hl; omega); simpa using this
  have hn1 : 0 < n := by simp at hl; omega
  obtain ⟨i0, hi, hz0, hz1, hz2⟩ := info_parts infoS9
  obtain ⟨h, rfl⟩ := Int.eq_ofNat_of_zero_le h0.1
  have hh : h ≤ 100 := by omega
  have HOK : Hid (okR ((h : Int) :: zt) = rd h zt) := by show (if 100 < (h : Int) then none else rd (h : Int).toNat zt) = rd h zt; rw [if_neg h100]; simp
  have HL : Hid (¬ 65536 < ((h : Int) :: zt).length) := by unfold Hid; omega
  clear hc hr hz h0
  have go : ∀ (A : Option Addr), RdV w A (n - 1) (zt.map (Value.int .u8)) → (cap = 1 → A = some ⟨b, off, none⟩) → (¬ cap = 1 → A = some ⟨b, off + 1, none⟩) →
      Calls Tryd.prog 84 #[.slice (some ⟨b, off, none⟩) n cap] w (AnsR w ((h : Int) :: zt)) := fun A HA hA1 hA2 => by
    have HA : Hid (RdV w A (n - 1) (zt.map (Value.int .u8))) := HA
    by_cases hc1 : cap = 1
    all_goals first | (have hA := hA1 hc1; subst hA) | (have hA := hA2 hc1; subst hA)
    all_goals
      clear hA1 hA2
      go_enter Tryd.func84, Tryd.ntmps84
      go_wp2
      go_loopw [4, 5, 24] (fun v s c wr => ∃ (i : Nat) (zr : List Int) (done : List ByteArray) (a' : Option Addr) (m cap' : Nat), i ≤ h ∧ c = .int .u8 (i : Int) ∧ s = .slice a' m cap' ∧ zr.length = m ∧ m ≤ cap' ∧ cap' ≤ 9223372036854775807 ∧ m ≤ 65536 ∧ Hid (RdV w a' m (zr.map (Value.int .u8))) ∧ Hid (∀ z ∈ zr, 0 ≤ z ∧ z < 256) ∧ done.length = i ∧ Hid (onR done (rd (h - i) zr) = rd h zt) ∧ wr.ownsRow w.heap.size 9 1 v i (done.map Value.string) ∧ Below w.heap.size w wr) (fun _ _ c _ => h - (intOf c).toNat)
      case atStart => exact ⟨0, zt, [], _, n - 1, _, by omega, rfl, rfl, by simp at hl; omega, by omega, by omega, by omega, HA, HZ, rfl, onR_start _, World.ownsRow_nil _ _ _ _, Below.refl _ _⟩
      case round =>
        obtain ⟨i, zr, done, a', m, cap', hih, rfl, rfl, hzl, hmc, hcm', hm6, HRZ, HZR, hdl, HON, hown, hb⟩ := hrel
        by_cases hlt : i < h
        · by_cases hm0 : m = 0
          · have E : Hid (_ ∧ _) := ansR3 (zs := (h : Int) :: zt) HL.out (by rw [HOK.out, ← HON.out, rd_none (by omega) (by omega)]; rfl)
            have hm0' : ((m : Int) == 0) = true := by simp [hm0]
            clear hm0
            go_wp2
            go_ret2
            exact ansR_nil E.out hb
          · have hm0' : ((m : Int) == 0) = false := by simp [hm0]
            obtain ⟨b2, o2, rfl, hbl2, hc2⟩ := HRZ.out.2 (by omega)
            obtain ⟨z, r, hzr⟩ : ∃ z r, zr = z :: r := by cases zr with | nil => simp at hzl; omega | cons z r => exact ⟨z, r, rfl⟩
            subst hzr
            have hzb := HZR.out z (List.mem_cons_self ..)
            obtain ⟨k, rfl⟩ := Int.eq_ofNat_of_zero_le hzb.1
            have hck : wr.cell? ⟨b2, o2, none⟩ = some (.int .u8 (k : Int)) := by
              rw [hb.cell (p := ⟨b2, o2, none⟩) hbl2]; have := hc2 0 (by omega); simpa using this
            have hrl : r.length + 1 = m := by simpa using hzl
            have hk256 : k < 256 := by omega
            clear hc2 hzl hzb
            by_cases hsh : (m : Int) - 1 < (k : Int)
            · have E : Hid (_ ∧ _) := ansR3 (zs := (h : Int) :: zt) HL.out (by rw [HOK.out, ← HON.out, rd_short (by omega) (by simp; omega)]; rfl)
              go_wp2
              go_ret2
              exact ansR_nil E.out hb
            · have hkm : 1 + k ≤ m := by omega
              have hnr : ¬ r.length < ((k : Int)).toNat := by simp; omega
              have HST : Hid (onR done (rd (h - i) ((k : Int) :: r)) = onR (done ++ [strOfNums (r.take k)]) (rd (h - (i + 1)) (r.drop k))) := by
                have := onR_step (done := done) (c := h - (i + 1)) hnr
                rw [show h - (i + 1) + 1 = h - i by omega] at this
                exact this
              obtain ⟨x, hx⟩ : ∃ x, x = strOfNums (r.take k) := ⟨_, rfl⟩
              have HX : Hid (x = strOfNums (r.take k)) := hx
              have HZD : Hid (∀ z ∈ r.drop k, 0 ≤ z ∧ z < 256) := fun z hz => HZR.out z (List.mem_cons_of_mem _ (List.mem_of_mem_drop hz))
              have HP : Hid (k = 0 ∨ RdV wr (some ⟨b2, o2 + 1, none⟩) k ((r.take k).map (Value.int .u8))) := by
                by_cases hk0 : k = 0
                · exact .inl hk0
                · right
                  have := (HRZ.out.below hb).cut 1 k (by omega)
                  rwa [List.drop_one, List.tail_cons] at this
              have HQ : Hid (RdV w (some ⟨b2, o2 + (1 + k), none⟩) (m - (1 + k)) ((r.drop k).map (Value.int .u8))) := by
                have := HRZ.out.cut (1 + k) (m - (1 + k)) (by omega)
                rw [Nat.add_comm 1 k, List.drop_succ_cons, List.take_of_length_le (by simp; omega), Nat.add_comm k 1] at this
                exact this
              obtain ⟨av, cv, hv⟩ := own_slice' hown
              subst hv
              have hbs : w.heap.size ≤ wr.heap.size := hb.size
              clear hnr hx HRZ
              by_cases e1 : cap' = 1
              · have hk0 : k = 0 := by omega
                subst hk0
                have hcv : ∀ c, (convert 54 9 (.slice (some ⟨b2, o2, none⟩) 0 c)).run Tryd.prog wr = .ok (.string x) wr := fun c => by
                  rw [HX.out]
                  exact conv8 (RdV.nil8 wr _)
                go_wp2_with (at_builtin; refine wpList_append_lies _ rfl (.tmp 44) (.tmp 49) 22 rfl w.heap.size 9 i0 (.string ⟨#[]⟩) 1 16 Tryd.underlying22 hi hz0 hz1 hz2 rfl (by omega) (.slice av i cv) i (done.map Value.string) rfl (hown.alloc _) ⟨wr.heap.size, 0, none⟩ 1 1 [.string x] rfl rfl (cell_one_new wr _ _) (by intro u hu; simp at hu; subst hu; rfl) (by omega) (by unfold maxLen; omega) (by omega) (by simp; omega) (wr.heap.size + 1) (by simp) ?_; intro g cp w1 hown1 hgr1 hat1 hlt1)
                have hb1 : Below w.heap.size w w1 := (hb.alloc hbs _).grown hgr1 (by simp; omega) (fun j hj => (hown.lt j hj).1)
                have hown2 : w1.ownsRow w.heap.size 9 1 (.slice (some ⟨g, 0, none⟩) (i + 1) cp) (i + 1) ((done ++ [x]).map Value.string) := by rw [List.map_append]; exact hown1
                go_roundw
                case rel => exact ⟨i + 1, r.drop 0, done ++ [x], _, m - (1 + 0), _, by omega, by go_num, rfl, by simp; omega, by omega, by omega, by omega, RdV.nil8' w _ (by rw [List.length_drop]; omega) (by omega), HZD, by simp [hdl], by rw [HX.out, ← HST.out]; exact HON.out, hown2, hb1⟩
                case measure => simp [intOf]; omega
              · have hcv : ∀ c, (convert 54 9 (.slice (some ⟨b2, o2 + 1, none⟩) k c)).run Tryd.prog wr = .ok (.string x) wr := fun c => by
                  rw [HX.out]
                  rcases HP.out with h0 | h0
                  · subst h0
                    exact conv8 (RdV.nil8 wr _)
                  · exact conv8 h0
                by_cases e2 : cap' = 1 + k
                · skip
                  go_wp2_with (at_builtin; refine wpList_append_lies _ rfl (.tmp 44) (.tmp 49) 22 rfl w.heap.size 9 i0 (.string ⟨#[]⟩) 1 16 Tryd.underlying22 hi hz0 hz1 hz2 rfl (by omega) (.slice av i cv) i (done.map Value.string) rfl (hown.alloc _) ⟨wr.heap.size, 0, none⟩ 1 1 [.string x] rfl rfl (cell_one_new wr _ _) (by intro u hu; simp at hu; subst hu; rfl) (by omega) (by unfold maxLen; omega) (by omega) (by simp; omega) (wr.heap.size + 1) (by simp) ?_; intro g cp w1 hown1 hgr1 hat1 hlt1)
                  have hb1 : Below w.heap.size w w1 := (hb.alloc hbs _).grown hgr1 (by simp; omega) (fun j hj => (hown.lt j hj).1)
                  have hown2 : w1.ownsRow w.heap.size 9 1 (.slice (some ⟨g, 0, none⟩) (i + 1) cp) (i + 1) ((done ++ [x]).map Value.string) := by rw [List.map_append]; exact hown1
                  go_roundw
                  case rel => exact ⟨i + 1, r.drop k, done ++ [x], _, m - (1 + k), _, by omega, by go_num, rfl, by simp; omega, by omega, by omega, by omega, RdV.nil8' w _ (by rw [List.length_drop]; omega) (by omega), HZD, by simp [hdl], by rw [HX.out, ← HST.out]; exact HON.out, hown2, hb1⟩
                  case measure => simp [intOf]; omega
                · skip
                  go_wp2_with (at_builtin; refine wpList_append_lies _ rfl (.tmp 44) (.tmp 49) 22 rfl w.heap.size 9 i0 (.string ⟨#[]⟩) 1 16 Tryd.underlying22 hi hz0 hz1 hz2 rfl (by omega) (.slice av i cv) i (done.map Value.string) rfl (hown.alloc _) ⟨wr.heap.size, 0, none⟩ 1 1 [.string x] rfl rfl (cell_one_new wr _ _) (by intro u hu; simp at hu; subst hu; rfl) (by omega) (by unfold maxLen; omega) (by omega) (by simp; omega) (wr.heap.size + 1) (by simp) ?_; intro g cp w1 hown1 hgr1 hat1 hlt1)
                  have hb1 : Below w.heap.size w w1 := (hb.alloc hbs _).grown hgr1 (by simp; omega) (fun j hj => (hown.lt j hj).1)
                  have hown2 : w1.ownsRow w.heap.size 9 1 (.slice (some ⟨g, 0, none⟩) (i + 1) cp) (i + 1) ((done ++ [x]).map Value.string) := by rw [List.map_append]; exact hown1
                  go_roundw
                  case rel => exact ⟨i + 1, r.drop k, done ++ [x], _, m - (1 + k), _, by omega, by go_num, rfl, by simp; omega, by omega, by omega, by omega, HQ, HZD, by simp [hdl], by rw [HX.out, ← HST.out]; exact HON.out, hown2, hb1⟩
                  case measure => simp [intOf]; omega
        · have e : i = h := by omega
          subst e
          by_cases hm0 : m = 0
          · have E : Hid (_ ∧ _) := ansR0 (zs := (i : Int) :: zt) (l := done) HL.out (by rw [HOK.out, ← HON.out, Nat.sub_self, rd_done, if_pos (by omega)]; exact onR_nil done)
            subst hdl
            have hm1 : ¬ (0 : Int) < (m : Int) := by omega
            go_wp2
            go_ret2
            exact ansR_own E.out hown hb
          · have E : Hid (_ ∧ _) := ansR3 (zs := (i : Int) :: zt) HL.out (by rw [HOK.out, ← HON.out, Nat.sub_self, rd_done, if_neg (by omega)]; rfl)
            have hm1 : (0 : Int) < (m : Int) := by omega
            go_wp2
            go_ret2
            exact ansR_nil E.out hb
  by_cases hc1 : cap = 1
  · obtain rfl : zt = [] := by
      have : zt.length = 0 := by simp at hl; omega
      exact List.length_eq_zero_iff.1 this
    refine go (some ⟨b, off, none⟩) ?_ (fun _ => rfl) (fun h => absurd hc1 h)
    have : n - 1 = 0 := by omega
    rw [this]
    exact RdV.nil8 w _
  · refine go (some ⟨b, off + 1, none⟩) ?_ (fun h => absurd h hc1) (fun _ => rfl)
    have := HR.out.cut 1 (n - 1) (by omega)
    rw [List.drop_one, List.tail_cons, List.take_of_length_le (by simp at hl; omega)] at this
    exact this

set_option maxRecDepth 100000 in
set_option maxHeartbeats 2000000 in
theorem c_implR (a : Option Addr) (n cap : Nat) (zs : List Int) (w : World) (hr : RdV w a n (zs.map (Value.int .u8))) (hz : ∀ z ∈ zs, 0 ≤ z ∧ z < 256) (hn : n ≤ 1048576) (hcap : n ≤ cap) (hcm : cap ≤ maxLen) :
    Calls Tryd.prog 84 #[.slice a n cap] w (AnsR w zs) := by
  have hl : zs.length = n := by simpa using hr.1
  by_cases h1 : 65536 < n
  · have E : Hid (_ ∧ _) := ansR2 (zs := zs) (by omega)
    clear hr
    go_enter Tryd.func84, Tryd.ntmps84
    go_wp2
    go_ret2
    exact ansR_nil E.out (Below.refl _ _)
  · cases zs with
    | nil =>
      have E : Hid (_ ∧ _) := ansR3 (zs := []) (by simp) rfl
      have hn0 : ((n : Int) == 0) = true := by simp at hl; simp [← hl]
      clear hr hl
      go_enter Tryd.func84, Tryd.ntmps84
      go_wp2
      go_ret2
      exact ansR_nil E.out (Below.refl _ _)
    | cons z0 zt =>
      obtain ⟨b, off, rfl, hbl, hc⟩ := hr.2 (by simp at hl; omega)
      by_cases h100 : 100 < z0
      · have E : Hid (_ ∧ _) := ansR3 (zs := z0 :: zt) (by omega) (by show (if 100 < z0 then none else _) = none; rw [if_pos h100])
        have hn0 : ((n : Int) == 0) = false := by simp; simp at hl; omega
        have hn1 : 0 < n := by simp at hl; omega
        have hc0 : w.cell? ⟨b, off, none⟩ = some (.int .u8 z0) := by have := hc 0 (by simp at hl; omega); simpa using this
        clear hc hr hz
        go_enter Tryd.func84, Tryd.ntmps84
        go_wp2
        go_ret2
        exact ansR_nil E.out (Below.refl _ _)
      · exact c_implR_lo b off n cap z0 zt w hr hz (by omega) hcap hcm h100
end Go.Proofs.YtcokbogicbdoaaaDoor
