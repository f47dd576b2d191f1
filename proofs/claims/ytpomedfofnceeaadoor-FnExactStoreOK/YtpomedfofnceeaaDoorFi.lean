/-
  The walk of the program's FieldsBytes.
-/
import Derived.Test.YtpomedfofnceeaaDoorFb
namespace Go.Proofs.YtpomedfofnceeaaDoor
open Go Go.RowKit

set_option maxRecDepth 100000 in
set_option maxHeartbeats 2000000 in
theorem c_implF (a : Option Addr) (n cap : Nat) (ss : List ByteArray) (w : World) (hr : RdV w a n (ss.map Value.string)) (hn : n ≤ 1048576) (hs : ∀ s ∈ ss, s.size ≤ 1048576) :
    Calls Tryd.prog 104 #[.slice a n cap] w (AnsF w ss n) := by
  obtain ⟨hl, hcs⟩ := hr
  simp only [List.length_map] at hl
  by_cases h1 : 4096 < n
  · have E : Hid (_ ∧ _) := err2 (ss := ss) h1
    go_enter Tryd.func104, Tryd.ntmps104
    go_wp2
    go_ret2
    exact ansF_nil E.out (Below.refl _ _)
  · by_cases h2 : 100 < n
    · have E : Hid (_ ∧ _) := err6 (ss := ss) h1 h2
      go_enter Tryd.func104, Tryd.ntmps104
      go_wp2
      go_ret2
      exact ansF_nil E.out (Below.refl _ _)
    · obtain ⟨i0, hi, hz0, hz1, hz2⟩ := info_parts infoB
      have hown0 : (w.alloc (.cells #[.int .u8 (n : Int)] 5)).ownsRow w.heap.size 5 1 (.slice (some ⟨w.heap.size, 0, none⟩) 1 1) (fbZ ss n 0).length ((fbZ ss n 0).map (Value.int .u8)) := by
        have := World.ownsRow_lit (base := w.heap.size) (e := 5) (size := 1) w #[.int .u8 (n : Int)] 1 (Nat.le_refl _) (by unfold maxLen; omega) rfl
        simpa [fbZ] using this
      go_enter Tryd.func104, Tryd.ntmps104
      go_wp2
      go_loopw [4, 19] (fun v i wr => ∃ k : Nat, k ≤ n ∧ i = .int .i64 k ∧ Hid (okF ss k = true) ∧ wr.ownsRow w.heap.size 5 1 v (fbZ ss n k).length ((fbZ ss n k).map (Value.int .u8)) ∧ Below w.heap.size w wr) (fun _ i _ => n - (intOf i).toNat)
      case atStart => exact ⟨0, by omega, rfl, rfl, hown0, (Below.refl _ _).alloc (Nat.le_refl _) _⟩
      case round =>
        obtain ⟨k, hk, rfl, HO, hown, hb⟩ := hrel
        by_cases hlt : k < n
        · obtain ⟨b, off, rfl, hbl, hc⟩ := hcs (by omega)
          obtain ⟨x, hx⟩ : ∃ x, x = ss.getD k ⟨#[]⟩ := ⟨_, rfl⟩
          have hck : wr.cell? ⟨b, off + k, none⟩ = some (Value.string x) := by rw [hb.cell (p := ⟨b, off + k, none⟩) hbl, hx, hc k hlt]; exact map_get _ _ _ _ (by omega)
          have HK : Hid (okF ss (k + 1) = (okF ss k && decide (x.size ≤ 255))) := by rw [hx]; exact okF_step (by omega)
          have HX : Hid (fbZ ss n (k + 1) = fbZ ss n k ++ ((x.size : Int) :: strZ x)) := by rw [hx]; exact fbZ_step (by omega)
          have hxs : x.size ≤ 1048576 := by
            have hk' : k < ss.length := by omega
            rw [hx, List.getD_eq_getElem?_getD, List.getElem?_eq_getElem hk']; exact hs _ (List.getElem_mem hk')
          have hlen := fbZ_len (n := n) k (by omega) HO.out
          have hlen2 : (fbZ ss n k).length ≤ 30000 := by omega
          have hbs : w.heap.size ≤ wr.heap.size := hb.size
          obtain ⟨av, cv, hv⟩ := own_slice hown
          subst hv
          clear hc hcs hx hs hlen hown0
          by_cases h255 : 255 < x.size
          · have E : Hid (_ ∧ _) := err4 (ss := ss) h2 (by have := okF_full (ss := ss) (k := k + 1) (by rw [HK.out, decide_eq_false (by omega)]; simp); rw [hl] at this; exact this)
            go_wp2
            go_ret2
            exact ansF_nil E.out hb
          · go_wp2_with (first
              | (at_builtin; refine wpList_append_lies _ rfl (.tmp 26) (.tmp 30) 65 rfl w.heap.size 5 i0 (.int .u8 0) 1 1 Tryd.underlying65 hi hz0 hz1 hz2 rfl (by omega) (.slice av (fbZ ss n k).length cv) (fbZ ss n k).length ((fbZ ss n k).map (Value.int .u8)) rfl (hown.alloc _) ⟨wr.heap.size, 0, none⟩ 1 1 [.int .u8 (x.size : Int)] rfl rfl (cell_one_new wr _ _) (by intro u hu; simp at hu; subst hu; rfl) (by omega) (by unfold maxLen; omega) (by omega) (by simp; omega) (wr.heap.size + 1) (by simp) ?_; intro g cp w1 hown1 hgr1 hat1 hlt1)
              | (at_builtin; refine Lib.wpList_append_own_string _ rfl (.tmp 32) (.tmp 33) 65 9 rfl w.heap.size 5 i0 Tryd.underlying65 Tryd.underlying9 hi hz0 hz1 hz2 (.slice (some ⟨g, 0, none⟩) ((fbZ ss n k).length + 1) cp) ((fbZ ss n k).length + 1) ((fbZ ss n k).map (Value.int .u8) ++ [.int .u8 (x.size : Int)]) rfl hown1 x rfl (by unfold maxLen; omega) (by omega) (by have := hgr1.size; simp at this; omega) ?_; intro v2 w2 hown2 hgr2 _))
            have hb1 : Below w.heap.size w w1 := (hb.alloc hbs _).grown hgr1 (by simp; omega) (fun j hj => (hown.lt j hj).1)
            have hb2 : Below w.heap.size w w2 := hb1.grown hgr2 hb1.size (fun j hj => (hown1.lt j hj).1)
            have hown3 : w2.ownsRow w.heap.size 5 1 v2 (fbZ ss n (k + 1)).length ((fbZ ss n (k + 1)).map (Value.int .u8)) := by
              have e1 : (fbZ ss n (k + 1)).length = (fbZ ss n k).length + 1 + x.size := by rw [HX.out, List.length_append, List.length_cons, strZ_len]; omega
              have e2 : (fbZ ss n (k + 1)).map (Value.int .u8) = (fbZ ss n k).map (Value.int .u8) ++ [.int .u8 (x.size : Int)] ++ Lib.strCells x := by
                rw [HX.out, List.map_append, List.map_cons, strZ_cells]; simp
              rw [e1, e2]; exact hown2
            clear hown2 hown1 hgr1 hgr2 hat1 hlt1 hb1 hown hck
            go_roundw
            case rel => exact ⟨k + 1, by omega, by go_num, by rw [HK.out, HO.out, decide_eq_true (by omega)]; rfl, hown3, hb2⟩
            case measure => simp [intOf]; omega
        · have e : k = n := by omega
          subst e
          have E : Hid (_ ∧ _) := err0 (ss := ss) h2 HO.out
          go_wp2
          go_ret2
          exact ansF_own E.out hown hb
end Go.Proofs.YtpomedfofnceeaaDoor
