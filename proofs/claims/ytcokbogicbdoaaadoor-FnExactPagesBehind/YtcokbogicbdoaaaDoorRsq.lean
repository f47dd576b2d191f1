/-
  The walk of the specification's ReadFields.
-/
import Derived.Test.YtcokbogicbdoaaaDoorRfq
namespace Go.Proofs.YtcokbogicbdoaaaDoor
open Go Go.RowKit

theorem son_get {zs : List Int} {p : Nat} (hz : ∀ z ∈ zs, 0 ≤ z ∧ z < 256) (h : p < (strOfNums zs).size) : (((strOfNums zs)[p]'h).toNat : Int) = zs.getD p 0 := by
  have hl : p < zs.length := by rwa [strOfNums_size] at h
  have e : (strOfNums zs)[p]'h = (zs.map fun n => UInt8.ofNat n.toNat)[p]'(by simpa using hl) := rfl
  rw [e, List.getElem_map, List.getD_eq_getElem?_getD, List.getElem?_eq_getElem hl]
  have := hz _ (List.getElem_mem hl)
  rw [UInt8.toNat_ofNat']
  simp
  omega
theorem son_cut (zs : List Int) (a b : Nat) : (strOfNums zs).extract a b = strOfNums ((zs.drop a).take (b - a)) := by
  have h := Lib.extract_data (strOfNums zs) a b
  rw [strOfNums_data] at h
  have h2 : ((strOfNums zs).extract a b).data.toList = (strOfNums ((zs.drop a).take (b - a))).data.toList := by
    rw [h, strOfNums_data, List.map_take, List.map_drop]
  have h3 : ((strOfNums zs).extract a b).data = (strOfNums ((zs.drop a).take (b - a))).data := by
    apply Array.ext'; exact h2
  cases hA : (strOfNums zs).extract a b with
  | mk d => rw [hA] at h3; cases hB : strOfNums ((zs.drop a).take (b - a)) with
    | mk d' => rw [hB] at h3; simp at h3; rw [h3]

/-- What the inner reader answers: the fields and true, or none and false. -/
def AnsI (w : World) (zs : List Int) (e : Ending) (w' : World) : Prop :=
  ∃ v, e = .returned (.tuple #[v, .bool (okR zs).isSome]) ∧ w'.ownsRow w.heap.size 9 1 v ((okR zs).getD []).length (((okR zs).getD []).map Value.string) ∧ Below w.heap.size w w'
theorem ansI_no {w w1 : World} {zs : List Int} (h : okR zs = none) (hb : Below w.heap.size w w1) : AnsI w zs (.returned (.tuple #[.slice (some ⟨w1.heap.size, 0, none⟩) 0 0, .bool false])) (w1.alloc (.cells #[] 9)) := by
  unfold AnsI
  rw [h]
  exact ⟨_, rfl, World.ownsRow_lit w1 #[] 0 hb.size (Nat.zero_le _) rfl, hb.alloc hb.size _⟩
theorem ansI_no' {w w1 : World} {zs : List Int} {v : Value} (h : okR zs = none) (ho : w1.ownsRow w.heap.size 9 1 v 0 []) (hb : Below w.heap.size w w1) : AnsI w zs (.returned (.tuple #[v, .bool false])) w1 := by
  unfold AnsI
  rw [h]
  exact ⟨_, rfl, ho, hb⟩
theorem ansI_yes {w w1 : World} {zs : List Int} {v : Value} {l : List ByteArray} (h : okR zs = some l) (ho : w1.ownsRow w.heap.size 9 1 v l.length (l.map Value.string)) (hb : Below w.heap.size w w1) : AnsI w zs (.returned (.tuple #[v, .bool true])) w1 := by
  unfold AnsI
  rw [h]
  exact ⟨_, rfl, ho, hb⟩

set_option maxRecDepth 100000 in
set_option maxHeartbeats 2000000 in
theorem c39 (zs : List Int) (w : World) (hz : ∀ z ∈ zs, 0 ≤ z ∧ z < 256) (hn : zs.length ≤ 65536) :
    Calls Tryd.prog 67 #[.string (strOfNums zs)] w (AnsI w zs) := by
  have hown0 : (w.alloc (.cells #[] 9)).ownsRow w.heap.size 9 1 (.slice (some ⟨w.heap.size, 0, none⟩) 0 0) 0 [] := World.ownsRow_lit w #[] 0 (Nat.le_refl _) (Nat.zero_le _) rfl
  have hb0 : Below w.heap.size w (w.alloc (.cells #[] 9)) := (Below.refl _ _).alloc (Nat.le_refl _) _
  obtain ⟨t, ht⟩ : ∃ t, t = strOfNums zs := ⟨_, rfl⟩
  rw [← ht]
  have hts : t.size = zs.length := by rw [ht, strOfNums_size]
  have HG : Hid (∀ p (h : p < t.size), ((t[p]'h).toNat : Int) = zs.getD p 0) := by
    intro p h; subst ht; exact son_get hz h
  have HC : Hid (∀ a b, t.extract a b = strOfNums ((zs.drop a).take (b - a))) := by
    intro a b; rw [ht]; exact son_cut zs a b
  clear ht
  cases zs with
  | nil =>
    have he : t.toList.isEmpty = true := by
      have : t.size = 0 := by simpa using hts
      rw [ByteArray.toList_eq]
      cases t with | mk d => simp [ByteArray.size] at this; simp [this]
    go_enter Tryd.func67, Tryd.ntmps67
    go_wp2
    go_ret2
    exact ansI_no' rfl hown0 hb0
  | cons z0 zt =>
    have hpos : 0 < t.size := by rw [hts]; simp
    have he : t.toList.isEmpty = false := by
      rw [ByteArray.toList_eq]
      cases t with | mk d => simp [ByteArray.size] at hpos; simp; intro h; simp [h] at hpos
    obtain ⟨h, hh⟩ := Int.eq_ofNat_of_zero_le (hz z0 (List.mem_cons_self ..)).1
    subst hh
    have h0 : ((t[0]'hpos).toNat : Int) = (h : Int) := by rw [HG.out 0 hpos]; rfl
    have hh256 := (hz (h : Int) (List.mem_cons_self ..)).2
    by_cases h100 : 100 < (h : Int)
    · have E : Hid (okR ((h : Int) :: zt) = none) := by show (if 100 < (h : Int) then none else _) = none; rw [if_pos h100]
      go_enter Tryd.func67, Tryd.ntmps67
      go_wp2
      go_ret2
      exact ansI_no' E.out hown0 hb0
    · have HOK : Hid (okR ((h : Int) :: zt) = rd h zt) := by show (if 100 < (h : Int) then none else rd (h : Int).toNat zt) = rd h zt; rw [if_neg h100]; simp
      obtain ⟨al, hal⟩ : ∃ al : List Int, al = (h : Int) :: zt := ⟨_, rfl⟩
      have HAL : Hid (al = (h : Int) :: zt) := hal
      have HTS : Hid (t.size = al.length) := by rw [hal]; exact hts
      have HGA : Hid (∀ p (h : p < t.size), ((t[p]'h).toNat : Int) = al.getD p 0) := by rw [hal]; exact HG.out
      have HCA : Hid (∀ a b, t.extract a b = strOfNums ((al.drop a).take (b - a))) := by rw [hal]; exact HC.out
      have HZA : Hid (∀ z ∈ al, 0 ≤ z ∧ z < 256) := by rw [hal]; exact hz
      have htn : t.size ≤ 65536 := by rw [hts]; exact hn
      have hh100 : h ≤ 100 := by omega
      obtain ⟨i0, hi, hz0, hz1, hz2⟩ := info_parts infoS9
      rw [← hal]
      have HOK : Hid (okR al = rd h zt) := by rw [hal]; exact HOK
      clear hal hts HG HC hz hn
      go_enter Tryd.func67, Tryd.ntmps67
      go_wp2
      go_loopw [4, 5, 6] (fun v x i wr => ∃ (c p : Nat) (done : List ByteArray), c ≤ h ∧ 1 ≤ p ∧ p ≤ t.size ∧ i = .int .i64 (c : Int) ∧ x = .int .i64 (p : Int) ∧ done.length + c = h ∧ Hid (onR done (rd c (al.drop p)) = rd h zt) ∧ wr.ownsRow w.heap.size 9 1 v done.length (done.map Value.string) ∧ Below w.heap.size w wr) (fun _ _ i _ => (intOf i).toNat)
      case atStart => exact ⟨h, 1, [], by omega, by omega, by omega, rfl, rfl, by simp, by rw [HAL.out]; exact onR_start _, hown0, hb0⟩
      case round =>
        obtain ⟨c, p, done, hc, hp1, hp2, rfl, rfl, hdl, HON, hown, hb⟩ := hrel
        have HDL : Hid (done.length + c = h) := hdl
        have hdl : done.length ≤ 100 := by omega
        clear hown0 hb0 h0 he hh256 h100
        by_cases hc0 : 0 < c
        · by_cases hp : t.size ≤ p
          · have E : Hid (okR al = none) := by rw [HOK.out, ← HON.out, rd_none hc0 (by rw [List.length_drop]; have := HTS.out; omega)]; rfl
            go_wp2
            go_ret2
            exact ansI_no E.out hb
          · have hpt : p < t.size := by omega
            obtain ⟨k, hk⟩ : ∃ k : Nat, (t[p]'hpt).toNat = k := ⟨_, rfl⟩
            have hk256 : k < 256 := by have := (t[p]'hpt).toNat_lt; omega
            have HK : Hid ((k : Int) = al.getD p 0) := by unfold Hid; rw [← HGA.out p hpt, hk]
            have HDR : Hid (al.drop p = (k : Int) :: al.drop (p + 1)) := by
              have hpl : p < al.length := by have := HTS.out; omega
              unfold Hid
              rw [List.drop_eq_getElem_cons hpl, HK.out, List.getD_eq_getElem?_getD, List.getElem?_eq_getElem hpl]
              rfl
            have hix : ∀ wx : World, (Instr.index 9 (.string t) (.int .i64 (p : Int))).run Tryd.prog wx = .ok (.int .u8 (k : Int)) wx := fun wx => by
              rw [run_index_string _ _ _ _ _ Tryd.underlying9, ← hk]
              simp [hpt]
            clear hp hk
            by_cases hsh : t.size < p + 1 + k
            · have E : Hid (okR al = none) := by rw [HOK.out, ← HON.out, HDR.out, rd_short hc0 (by rw [List.length_drop]; have := HTS.out; simp; omega)]; rfl
              go_wp2
              go_ret2
              exact ansI_no E.out hb
            · have HST : Hid (onR done (rd c (al.drop p)) = onR (done ++ [t.extract (p + 1) (p + 1 + k)]) (rd (c - 1) (al.drop (p + (1 + k))))) := by
                have := onR_step (done := done) (c := c - 1) (z := (k : Int)) (r := al.drop (p + 1)) (by rw [List.length_drop]; have := HTS.out; simp; omega)
                rw [show c - 1 + 1 = c by omega, ← HDR.out, List.drop_drop] at this
                rw [HCA.out, show p + 1 + k - (p + 1) = k by omega, show p + (1 + k) = p + 1 + k by omega]
                exact this
              obtain ⟨x, hx⟩ : ∃ x, x = t.extract (p + 1) (p + 1 + k) := ⟨_, rfl⟩
              have HX : Hid (x = t.extract (p + 1) (p + 1 + k)) := hx
              have hx2 : t.extract (p + 1) (p + 1 + k) = x := hx.symm
              obtain ⟨av, cv, hv⟩ := own_slice' hown
              subst hv
              have hbs : w.heap.size ≤ wr.heap.size := hb.size
              clear hx
              go_wp2_with (at_builtin; refine wpList_append_lies _ rfl (.tmp 45) (.tmp 54) 22 rfl w.heap.size 9 i0 (.string ⟨#[]⟩) 1 16 Tryd.underlying22 hi hz0 hz1 hz2 rfl (by omega) (.slice av done.length cv) done.length (done.map Value.string) rfl (hown.alloc _) ⟨wr.heap.size, 0, none⟩ 1 1 [.string x] rfl rfl (cell_one_new wr _ _) (by intro u hu; simp at hu; subst hu; rfl) (by omega) (by unfold maxLen; omega) (by omega) (by simp; omega) (wr.heap.size + 1) (by simp) ?_; intro g cp w1 hown1 hgr1 hat1 hlt1)
              have hb1 : Below w.heap.size w w1 := (hb.alloc hbs _).grown hgr1 (by simp; omega) (fun j hj => (hown.lt j hj).1)
              have hown2 : w1.ownsRow w.heap.size 9 1 (.slice (some ⟨g, 0, none⟩) (done.length + 1) cp) (done ++ [x]).length ((done ++ [x]).map Value.string) := by rw [List.map_append, List.length_append]; exact hown1
              go_roundw
              case rel => exact ⟨c - 1, p + (1 + k), done ++ [x], by omega, by omega, by omega, by go_num, by go_num, by have := HDL.out; simp; omega, by rw [HX.out, ← HST.out]; exact HON.out, hown2, hb1⟩
              case measure => simp [intOf]; omega
        · have hcz : c = 0 := by omega
          subst hcz
          by_cases hp : p = t.size
          · have E : Hid (okR al = some done) := by rw [HOK.out, ← HON.out, rd_done, if_pos (by rw [List.length_drop]; have := HTS.out; omega)]; exact onR_nil done
            have hp' : ((p : Int) != (t.size : Int)) = false := by simp [hp]
            clear hp
            go_wp2
            go_ret2
            exact ansI_yes E.out hown hb
          · have E : Hid (okR al = none) := by rw [HOK.out, ← HON.out, rd_done, if_neg (by rw [List.length_drop]; have := HTS.out; omega)]; rfl
            have hp' : ((p : Int) != (t.size : Int)) = true := by simp; omega
            clear hp
            go_wp2
            go_ret2
            exact ansI_no E.out hb

end Go.Proofs.YtcokbogicbdoaaaDoor
