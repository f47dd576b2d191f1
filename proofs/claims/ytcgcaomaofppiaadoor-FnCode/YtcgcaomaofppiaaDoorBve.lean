/-
  BinaryValue: both functions whole.
-/
import Derived.Test.YtcgcaomaofppiaaDoorBvd
namespace Go.Proofs.YtcgcaomaofppiaaDoor
open Go Go.RowKit
set_option linter.unusedVariables false
set_option linter.unusedSimpArgs false

def binA (op : Int) (k n : Int) (t : ByteArray) (k' n' : Int) (t' : ByteArray) : BR := if valB k n t && valB k' n' t' then (if inB op 6 13 then binR op k n t k' n' t' else ⟨0, 0, 4⟩) else ⟨0, 0, 1⟩
theorem dec_ne {op k n : Int} (h : op ≠ 12) (h' : op ≠ 13) : decB op k n = false := by unfold decB; simp [h, h']
set_option maxHeartbeats 2000000 in
theorem c_binV (op : Int) (k n : Int) (t : ByteArray) (k' n' : Int) (t' : ByteArray) (w : World) (h6 : 6 ≤ op) (h13 : op ≤ 13) (r : Rt k n) (r' : Rt k' n') :
    Calls Tryd.prog 75 #[.int .i64 op, .agg #[.int .i64 k, .int .i64 n, .string t], .agg #[.int .i64 k', .int .i64 n', .string t']] w fun e w' => e = .returned (.tuple #[.agg #[.int .i64 (binR op k n t k' n' t').k, .int .i64 (binR op k n t k' n' t').n, .string ⟨#[]⟩], .int .i64 (binR op k n t k' n' t').c]) ∧ Below w.heap.size w w' := by
  obtain ⟨hk, g2, g3⟩ := r
  obtain ⟨hk', g4, g5⟩ := r'
  cases e1 : (k == 2 || k' == 2)
  · cases d1 : decB op k n
    · cases d2 : decB op k' n'
      · cases z : (k == 0 || k' == 0)
        · cases kk : (k != k')
          · have ke : (k == k') = true := by simpa using kk
            cases o12 : (op == 12)
            · cases o13 : (op == 13)
              · cases o10 : (op == 10)
                · cases o11 : (op == 11)
                  · exact c_binV_aR op k n t k' n' t' w e1 d1 d2 z kk o12 o13 o10 o11 h6 (by simp at o10 o11 o12 o13; omega) g2 g3 g4 g5 (by unfold Hid binR; first | (simp_all; done) | (simp_all [trI]; done) | (simp_all [eqS]; done) | (simp_all [trI, eqS]; done))
                  · exact c_binV_aL op k n t k' n' t' w e1 d1 d2 z kk o12 o13 o10 o11 (by unfold Hid binR; first | (simp_all; done) | (simp_all [trI]; done) | (simp_all [eqS]; done) | (simp_all [trI, eqS]; done))
                · cases ne : (n == n')
                  · exact c_binV_aQ op k n t k' n' t' w e1 d1 d2 z kk ke o12 o13 o10 ne (by unfold Hid binR; first | (simp_all; done) | (simp_all [trI]; done) | (simp_all [eqS]; done) | (simp_all [trI, eqS]; done))
                  · cases te : (t.toList == t'.toList)
                    · exact c_binV_aU op k n t k' n' t' w e1 d1 d2 z kk ke o12 o13 o10 ne te (by unfold Hid binR; first | (simp_all; done) | (simp_all [trI]; done) | (simp_all [eqS]; done) | (simp_all [trI, eqS]; done))
                    · exact c_binV_aV op k n t k' n' t' w e1 d1 d2 z kk ke o12 o13 o10 ne te (by unfold Hid binR; first | (simp_all; done) | (simp_all [trI]; done) | (simp_all [eqS]; done) | (simp_all [trI, eqS]; done))
              · exact c_binV_aO op k n t k' n' t' w e1 d1 d2 z kk o12 o13 (by unfold Hid binR; first | (simp_all; done) | (simp_all [trI]; done) | (simp_all [eqS]; done) | (simp_all [trI, eqS]; done))
            · exact c_binV_aX op k n t k' n' t' w e1 d1 d2 z kk o12 (by unfold Hid binR; first | (simp_all; done) | (simp_all [trI]; done) | (simp_all [eqS]; done) | (simp_all [trI, eqS]; done))
          · exact c_binV_aK op k n t k' n' t' w e1 d1 d2 z kk (by unfold Hid binR; first | (simp_all; done) | (simp_all [trI]; done) | (simp_all [eqS]; done) | (simp_all [trI, eqS]; done))
        · exact c_binV_aN op k n t k' n' t' w e1 d1 d2 z (by unfold Hid binR; first | (simp_all; done) | (simp_all [trI]; done) | (simp_all [eqS]; done) | (simp_all [trI, eqS]; done))
      · exact c_binV_aB op k n t k' n' t' w e1 d1 d2 (by unfold Hid binR; first | (simp_all; done) | (simp_all [trI]; done) | (simp_all [eqS]; done) | (simp_all [trI, eqS]; done))
    · exact c_binV_aA op k n t k' n' t' w e1 d1 (by unfold Hid binR; first | (simp_all; done) | (simp_all [trI]; done) | (simp_all [eqS]; done) | (simp_all [trI, eqS]; done))
  · cases n10 : (op != 10)
    · obtain rfl : op = 10 := by simpa using n10
      have d1 : decB 10 k n = false := dec_ne (by decide) (by decide)
      have d2 : decB 10 k' n' = false := dec_ne (by decide) (by decide)
      cases z : (k == 0 || k' == 0)
      · cases kk : (k != k')
        · have ke : (k == k') = true := by simpa using kk
          cases ne : (n == n')
          · exact c_binV_bQ 10 k n t k' n' t' w e1 n10 d1 d2 z kk ke rfl rfl rfl ne (by unfold Hid binR; first | (simp_all; done) | (simp_all [trI]; done) | (simp_all [eqS]; done) | (simp_all [trI, eqS]; done))
          · cases te : (t.toList == t'.toList)
            · exact c_binV_bU 10 k n t k' n' t' w e1 n10 d1 d2 z kk ke rfl rfl rfl ne te (by unfold Hid binR; first | (simp_all; done) | (simp_all [trI]; done) | (simp_all [eqS]; done) | (simp_all [trI, eqS]; done))
            · exact c_binV_bV 10 k n t k' n' t' w e1 n10 d1 d2 z kk ke rfl rfl rfl ne te (by unfold Hid binR; first | (simp_all; done) | (simp_all [trI]; done) | (simp_all [eqS]; done) | (simp_all [trI, eqS]; done))
        · exact c_binV_bK 10 k n t k' n' t' w e1 n10 d1 d2 z kk (by unfold Hid binR; first | (simp_all; done) | (simp_all [trI]; done) | (simp_all [eqS]; done) | (simp_all [trI, eqS]; done))
      · exact c_binV_bN 10 k n t k' n' t' w e1 n10 d1 d2 z (by unfold Hid binR; first | (simp_all; done) | (simp_all [trI]; done) | (simp_all [eqS]; done) | (simp_all [trI, eqS]; done))
    · cases n11 : (op != 11)
      · obtain rfl : op = 11 := by simpa using n11
        have d1 : decB 11 k n = false := dec_ne (by decide) (by decide)
        have d2 : decB 11 k' n' = false := dec_ne (by decide) (by decide)
        cases z : (k == 0 || k' == 0)
        · cases kk : (k != k')
          · exact c_binV_cL 11 k n t k' n' t' w e1 n10 n11 d1 d2 z kk rfl rfl rfl rfl (by unfold Hid binR; first | (simp_all; done) | (simp_all [trI]; done) | (simp_all [eqS]; done) | (simp_all [trI, eqS]; done))
          · exact c_binV_cK 11 k n t k' n' t' w e1 n10 n11 d1 d2 z kk (by unfold Hid binR; first | (simp_all; done) | (simp_all [trI]; done) | (simp_all [eqS]; done) | (simp_all [trI, eqS]; done))
        · exact c_binV_cN 11 k n t k' n' t' w e1 n10 n11 d1 d2 z (by unfold Hid binR; first | (simp_all; done) | (simp_all [trI]; done) | (simp_all [eqS]; done) | (simp_all [trI, eqS]; done))
      · exact c_binV_T op k n t k' n' t' w e1 n10 n11 (by unfold Hid binR; first | (simp_all; done) | (simp_all [trI]; done) | (simp_all [eqS]; done) | (simp_all [trI, eqS]; done))
set_option maxHeartbeats 4000000 in
theorem c_l10B (op : Int) (k n : Int) (t : ByteArray) (k' n' : Int) (t' : ByteArray) (w : World) (h6 : 6 ≤ op) (h13 : op ≤ 13) (r : Rt k n) (r' : Rt k' n') :
    Calls Tryd.prog 44 #[.int .i64 op, .agg #[.int .i64 k, .int .i64 n, .string t], .agg #[.int .i64 k', .int .i64 n', .string t']] w fun e w' => e = .returned (.tuple #[.agg #[.int .i64 (binR op k n t k' n' t').k, .int .i64 (binR op k n t k' n' t').n, .string ⟨#[]⟩], .int .i64 (binR op k n t k' n' t').c]) ∧ Below w.heap.size w w' := by
  obtain ⟨hk, g2, g3⟩ := r
  obtain ⟨hk', g4, g5⟩ := r'
  have hm := mulB g2 g3 g4 g5
  have hd := divB (b := n') g2 g3
  cases o12 : (op == 12)
  · cases o13 : (op == 13)
    · cases o10 : (op == 10)
      · cases o11 : (op == 11)
        · cases k2 : (k == 2)
          · cases j2 : (k' == 2)
            · clear hk hk'
              cases k0 : (k == 0)
              · cases j0 : (k' == 0)
                · cases kk : (k != k')
                  · cases o6 : (op == 6)
                    · cases o7 : (op == 7)
                      · cases o8 : (op == 8)
                        · have o9 : op = 9 := by simp at o6 o7 o8 o10 o11 o12 o13; omega
                          cases m0 : (n' == 0)
                          · exact c_l10B_r9 op k n t k' n' t' w o12 o13 o10 o11 k2 j2 k0 j0 kk o6 o7 o8 m0 (wrapS hd.1 hd.2) (by simpa using m0) (by unfold Hid binR; first | (simp_all; done) | (simp_all [reckB]; done) | (simp_all [opI]; done) | (simp_all [decB]; done) | (simp_all [reckB, opI]; done) | (simp_all [reckB, decB]; done) | (simp_all [opI, decB]; done) | (simp_all [reckB, opI, decB]; done))
                          · exact c_l10B_r9z op k n t k' n' t' w o12 o13 o10 o11 k2 j2 k0 j0 kk o6 o7 o8 m0 (by unfold Hid binR; first | (simp_all; done) | (simp_all [reckB]; done) | (simp_all [opI]; done) | (simp_all [decB]; done) | (simp_all [reckB, opI]; done) | (simp_all [reckB, decB]; done) | (simp_all [opI, decB]; done) | (simp_all [reckB, opI, decB]; done))
                        · exact c_l10B_r8 op k n t k' n' t' w o12 o13 o10 o11 k2 j2 k0 j0 kk o6 o7 o8 (wrapS hm.1 hm.2) (by unfold Hid binR; first | (simp_all; done) | (simp_all [reckB]; done) | (simp_all [opI]; done) | (simp_all [decB]; done) | (simp_all [reckB, opI]; done) | (simp_all [reckB, decB]; done) | (simp_all [opI, decB]; done) | (simp_all [reckB, opI, decB]; done))
                      · exact c_l10B_r7 op k n t k' n' t' w o12 o13 o10 o11 k2 j2 k0 j0 kk o6 o7 (wrapS (by omega) (by omega)) (by unfold Hid binR; first | (simp_all; done) | (simp_all [reckB]; done) | (simp_all [opI]; done) | (simp_all [decB]; done) | (simp_all [reckB, opI]; done) | (simp_all [reckB, decB]; done) | (simp_all [opI, decB]; done) | (simp_all [reckB, opI, decB]; done))
                    · exact c_l10B_r6 op k n t k' n' t' w o12 o13 o10 o11 k2 j2 k0 j0 kk o6 (wrapS (by omega) (by omega)) (by unfold Hid binR; first | (simp_all; done) | (simp_all [reckB]; done) | (simp_all [opI]; done) | (simp_all [decB]; done) | (simp_all [reckB, opI]; done) | (simp_all [reckB, decB]; done) | (simp_all [opI, decB]; done) | (simp_all [reckB, opI, decB]; done))
                  · exact c_l10B_rK op k n t k' n' t' w o12 o13 o10 o11 k2 j2 k0 j0 kk (by unfold Hid binR; first | (simp_all; done) | (simp_all [trI]; done) | (simp_all [decB]; done) | (simp_all [eqS]; done) | (simp_all [trI, decB]; done) | (simp_all [trI, eqS]; done) | (simp_all [decB, eqS]; done) | (simp_all [trI, decB, eqS]; done))
                · exact c_l10B_rN2 op k n t k' n' t' w o12 o13 o10 o11 k2 j2 k0 j0 (by unfold Hid binR; first | (simp_all; done) | (simp_all [trI]; done) | (simp_all [decB]; done) | (simp_all [eqS]; done) | (simp_all [trI, decB]; done) | (simp_all [trI, eqS]; done) | (simp_all [decB, eqS]; done) | (simp_all [trI, decB, eqS]; done))
              · exact c_l10B_rN1 op k n t k' n' t' w o12 o13 o10 o11 k2 j2 k0 (by unfold Hid binR; first | (simp_all; done) | (simp_all [trI]; done) | (simp_all [decB]; done) | (simp_all [eqS]; done) | (simp_all [trI, decB]; done) | (simp_all [trI, eqS]; done) | (simp_all [decB, eqS]; done) | (simp_all [trI, decB, eqS]; done))
            · exact c_l10B_rT2 op k n t k' n' t' w o12 o13 o10 o11 k2 j2 (by unfold Hid binR; first | (simp_all; done) | (simp_all [trI]; done) | (simp_all [decB]; done) | (simp_all [eqS]; done) | (simp_all [trI, decB]; done) | (simp_all [trI, eqS]; done) | (simp_all [decB, eqS]; done) | (simp_all [trI, decB, eqS]; done))
          · exact c_l10B_rT1 op k n t k' n' t' w o12 o13 o10 o11 k2 (by unfold Hid binR; first | (simp_all; done) | (simp_all [trI]; done) | (simp_all [decB]; done) | (simp_all [eqS]; done) | (simp_all [trI, decB]; done) | (simp_all [trI, eqS]; done) | (simp_all [decB, eqS]; done) | (simp_all [trI, decB, eqS]; done))
        · clear hm hd hk hk'
          cases k0 : (k == 0)
          · cases j0 : (k' == 0)
            · cases kk : (k != k')
              · exact c_l10B_lL op k n t k' n' t' w o12 o13 o10 o11 k0 j0 kk (by unfold Hid binR; first | (simp_all; done) | (simp_all [trI]; done) | (simp_all [decB]; done) | (simp_all [eqS]; done) | (simp_all [trI, decB]; done) | (simp_all [trI, eqS]; done) | (simp_all [decB, eqS]; done) | (simp_all [trI, decB, eqS]; done))
              · exact c_l10B_lK op k n t k' n' t' w o12 o13 o10 o11 k0 j0 kk (by unfold Hid binR; first | (simp_all; done) | (simp_all [trI]; done) | (simp_all [decB]; done) | (simp_all [eqS]; done) | (simp_all [trI, decB]; done) | (simp_all [trI, eqS]; done) | (simp_all [decB, eqS]; done) | (simp_all [trI, decB, eqS]; done))
            · exact c_l10B_lN2 op k n t k' n' t' w o12 o13 o10 o11 k0 j0 (by unfold Hid binR; first | (simp_all; done) | (simp_all [trI]; done) | (simp_all [decB]; done) | (simp_all [eqS]; done) | (simp_all [trI, decB]; done) | (simp_all [trI, eqS]; done) | (simp_all [decB, eqS]; done) | (simp_all [trI, decB, eqS]; done))
          · exact c_l10B_lN1 op k n t k' n' t' w o12 o13 o10 o11 k0 (by unfold Hid binR; first | (simp_all; done) | (simp_all [trI]; done) | (simp_all [decB]; done) | (simp_all [eqS]; done) | (simp_all [trI, decB]; done) | (simp_all [trI, eqS]; done) | (simp_all [decB, eqS]; done) | (simp_all [trI, decB, eqS]; done))
      · clear hm hd hk hk'
        cases k0 : (k == 0)
        · cases j0 : (k' == 0)
          · cases kk : (k != k')
            · have ke : (k == k') = true := by simpa using kk
              cases ne : (n == n')
              · exact c_l10B_qQ op k n t k' n' t' w o12 o13 o10 k0 j0 kk ke ne (by unfold Hid binR; first | (simp_all; done) | (simp_all [trI]; done) | (simp_all [decB]; done) | (simp_all [eqS]; done) | (simp_all [trI, decB]; done) | (simp_all [trI, eqS]; done) | (simp_all [decB, eqS]; done) | (simp_all [trI, decB, eqS]; done))
              · cases te : (t.toList == t'.toList)
                · exact c_l10B_qU op k n t k' n' t' w o12 o13 o10 k0 j0 kk ke ne te (by unfold Hid binR; first | (simp_all; done) | (simp_all [trI]; done) | (simp_all [decB]; done) | (simp_all [eqS]; done) | (simp_all [trI, decB]; done) | (simp_all [trI, eqS]; done) | (simp_all [decB, eqS]; done) | (simp_all [trI, decB, eqS]; done))
                · exact c_l10B_qV op k n t k' n' t' w o12 o13 o10 k0 j0 kk ke ne te (by unfold Hid binR; first | (simp_all; done) | (simp_all [trI]; done) | (simp_all [decB]; done) | (simp_all [eqS]; done) | (simp_all [trI, decB]; done) | (simp_all [trI, eqS]; done) | (simp_all [decB, eqS]; done) | (simp_all [trI, decB, eqS]; done))
            · exact c_l10B_qK op k n t k' n' t' w o12 o13 o10 k0 j0 kk (by unfold Hid binR; first | (simp_all; done) | (simp_all [trI]; done) | (simp_all [decB]; done) | (simp_all [eqS]; done) | (simp_all [trI, decB]; done) | (simp_all [trI, eqS]; done) | (simp_all [decB, eqS]; done) | (simp_all [trI, decB, eqS]; done))
          · exact c_l10B_qN2 op k n t k' n' t' w o12 o13 o10 k0 j0 (by unfold Hid binR; first | (simp_all; done) | (simp_all [trI]; done) | (simp_all [decB]; done) | (simp_all [eqS]; done) | (simp_all [trI, decB]; done) | (simp_all [trI, eqS]; done) | (simp_all [decB, eqS]; done) | (simp_all [trI, decB, eqS]; done))
        · exact c_l10B_qN1 op k n t k' n' t' w o12 o13 o10 k0 (by unfold Hid binR; first | (simp_all; done) | (simp_all [trI]; done) | (simp_all [decB]; done) | (simp_all [eqS]; done) | (simp_all [trI, decB]; done) | (simp_all [trI, eqS]; done) | (simp_all [decB, eqS]; done) | (simp_all [trI, decB, eqS]; done))
    · clear hm hd
      cases k2 : (k == 2)
      · cases j2 : (k' == 2)
        · skip
          cases k1 : (k == 1)
          · have k0 : (k == 0) = true := by simp_all
            cases j1 : (k' == 1)
            · have j0 : (k' == 0) = true := by simp_all
              exact c_l10B_13NN op k n t k' n' t' w o12 o13 k2 j2 k1 k0 j1 j0 (by unfold Hid binR; first | (simp_all; done) | (simp_all [trI]; done) | (simp_all [decB]; done) | (simp_all [eqS]; done) | (simp_all [trI, decB]; done) | (simp_all [trI, eqS]; done) | (simp_all [decB, eqS]; done) | (simp_all [trI, decB, eqS]; done))
            · have j0 : (k' == 0) = false := by simp_all
              cases m0 : (n' == 0)
              · have mm : (n' != 0) = true := by simp_all
                exact c_l10B_13N0 op k n t k' n' t' w o12 o13 k2 j2 k1 k0 j1 j0 m0 mm (by unfold Hid binR; first | (simp_all; done) | (simp_all [trI]; done) | (simp_all [decB]; done) | (simp_all [eqS]; done) | (simp_all [trI, decB]; done) | (simp_all [trI, eqS]; done) | (simp_all [decB, eqS]; done) | (simp_all [trI, decB, eqS]; done))
              · have mm : (n' != 0) = false := by simp_all
                exact c_l10B_13N1 op k n t k' n' t' w o12 o13 k2 j2 k1 k0 j1 j0 m0 mm (by unfold Hid binR; first | (simp_all; done) | (simp_all [trI]; done) | (simp_all [decB]; done) | (simp_all [eqS]; done) | (simp_all [trI, decB]; done) | (simp_all [trI, eqS]; done) | (simp_all [decB, eqS]; done) | (simp_all [trI, decB, eqS]; done))
          · have k0 : (k == 0) = false := by simp_all
            cases n0 : (n == 0)
            · have nn : (n != 0) = true := by simp_all
              cases j1 : (k' == 1)
              · have j0 : (k' == 0) = true := by simp_all
                exact c_l10B_130N op k n t k' n' t' w o12 o13 k2 j2 k1 k0 n0 nn j1 j0 (by unfold Hid binR; first | (simp_all; done) | (simp_all [trI]; done) | (simp_all [decB]; done) | (simp_all [eqS]; done) | (simp_all [trI, decB]; done) | (simp_all [trI, eqS]; done) | (simp_all [decB, eqS]; done) | (simp_all [trI, decB, eqS]; done))
              · have j0 : (k' == 0) = false := by simp_all
                cases m0 : (n' == 0)
                · have mm : (n' != 0) = true := by simp_all
                  exact c_l10B_1300 op k n t k' n' t' w o12 o13 k2 j2 k1 k0 n0 nn j1 j0 m0 mm (by unfold Hid binR; first | (simp_all; done) | (simp_all [trI]; done) | (simp_all [decB]; done) | (simp_all [eqS]; done) | (simp_all [trI, decB]; done) | (simp_all [trI, eqS]; done) | (simp_all [decB, eqS]; done) | (simp_all [trI, decB, eqS]; done))
                · have mm : (n' != 0) = false := by simp_all
                  exact c_l10B_1301 op k n t k' n' t' w o12 o13 k2 j2 k1 k0 n0 nn j1 j0 m0 mm (by unfold Hid binR; first | (simp_all; done) | (simp_all [trI]; done) | (simp_all [decB]; done) | (simp_all [eqS]; done) | (simp_all [trI, decB]; done) | (simp_all [trI, eqS]; done) | (simp_all [decB, eqS]; done) | (simp_all [trI, decB, eqS]; done))
            · have nn : (n != 0) = false := by simp_all
              cases j1 : (k' == 1)
              · have j0 : (k' == 0) = true := by simp_all
                exact c_l10B_131N op k n t k' n' t' w o12 o13 k2 j2 k1 k0 n0 nn j1 j0 (by unfold Hid binR; first | (simp_all; done) | (simp_all [trI]; done) | (simp_all [decB]; done) | (simp_all [eqS]; done) | (simp_all [trI, decB]; done) | (simp_all [trI, eqS]; done) | (simp_all [decB, eqS]; done) | (simp_all [trI, decB, eqS]; done))
              · have j0 : (k' == 0) = false := by simp_all
                cases m0 : (n' == 0)
                · have mm : (n' != 0) = true := by simp_all
                  exact c_l10B_1310 op k n t k' n' t' w o12 o13 k2 j2 k1 k0 n0 nn j1 j0 m0 mm (by unfold Hid binR; first | (simp_all; done) | (simp_all [trI]; done) | (simp_all [decB]; done) | (simp_all [eqS]; done) | (simp_all [trI, decB]; done) | (simp_all [trI, eqS]; done) | (simp_all [decB, eqS]; done) | (simp_all [trI, decB, eqS]; done))
                · have mm : (n' != 0) = false := by simp_all
                  exact c_l10B_1311 op k n t k' n' t' w o12 o13 k2 j2 k1 k0 n0 nn j1 j0 m0 mm (by unfold Hid binR; first | (simp_all; done) | (simp_all [trI]; done) | (simp_all [decB]; done) | (simp_all [eqS]; done) | (simp_all [trI, decB]; done) | (simp_all [trI, eqS]; done) | (simp_all [decB, eqS]; done) | (simp_all [trI, decB, eqS]; done))
        · exact c_l10B_13T2 op k n t k' n' t' w o12 o13 k2 j2 (by unfold Hid binR; first | (simp_all; done) | (simp_all [trI]; done) | (simp_all [decB]; done) | (simp_all [eqS]; done) | (simp_all [trI, decB]; done) | (simp_all [trI, eqS]; done) | (simp_all [decB, eqS]; done) | (simp_all [trI, decB, eqS]; done))
      · exact c_l10B_13T1 op k n t k' n' t' w o12 o13 k2 (by unfold Hid binR; first | (simp_all; done) | (simp_all [trI]; done) | (simp_all [decB]; done) | (simp_all [eqS]; done) | (simp_all [trI, decB]; done) | (simp_all [trI, eqS]; done) | (simp_all [decB, eqS]; done) | (simp_all [trI, decB, eqS]; done))
  · clear hm hd
    have o13 : (op == 13) = false := by simp_all
    cases k2 : (k == 2)
    · cases j2 : (k' == 2)
      · skip
        cases k1 : (k == 1)
        · have k0 : (k == 0) = true := by simp_all
          cases j1 : (k' == 1)
          · have j0 : (k' == 0) = true := by simp_all
            exact c_l10B_12NN op k n t k' n' t' w o12 o13 k2 j2 k1 k0 j1 j0 (by unfold Hid binR; first | (simp_all; done) | (simp_all [trI]; done) | (simp_all [decB]; done) | (simp_all [eqS]; done) | (simp_all [trI, decB]; done) | (simp_all [trI, eqS]; done) | (simp_all [decB, eqS]; done) | (simp_all [trI, decB, eqS]; done))
          · have j0 : (k' == 0) = false := by simp_all
            cases m0 : (n' == 0)
            · have mm : (n' != 0) = true := by simp_all
              exact c_l10B_12N0 op k n t k' n' t' w o12 o13 k2 j2 k1 k0 j1 j0 m0 mm (by unfold Hid binR; first | (simp_all; done) | (simp_all [trI]; done) | (simp_all [decB]; done) | (simp_all [eqS]; done) | (simp_all [trI, decB]; done) | (simp_all [trI, eqS]; done) | (simp_all [decB, eqS]; done) | (simp_all [trI, decB, eqS]; done))
            · have mm : (n' != 0) = false := by simp_all
              exact c_l10B_12N1 op k n t k' n' t' w o12 o13 k2 j2 k1 k0 j1 j0 m0 mm (by unfold Hid binR; first | (simp_all; done) | (simp_all [trI]; done) | (simp_all [decB]; done) | (simp_all [eqS]; done) | (simp_all [trI, decB]; done) | (simp_all [trI, eqS]; done) | (simp_all [decB, eqS]; done) | (simp_all [trI, decB, eqS]; done))
        · have k0 : (k == 0) = false := by simp_all
          cases n0 : (n == 0)
          · have nn : (n != 0) = true := by simp_all
            cases j1 : (k' == 1)
            · have j0 : (k' == 0) = true := by simp_all
              exact c_l10B_120N op k n t k' n' t' w o12 o13 k2 j2 k1 k0 n0 nn j1 j0 (by unfold Hid binR; first | (simp_all; done) | (simp_all [trI]; done) | (simp_all [decB]; done) | (simp_all [eqS]; done) | (simp_all [trI, decB]; done) | (simp_all [trI, eqS]; done) | (simp_all [decB, eqS]; done) | (simp_all [trI, decB, eqS]; done))
            · have j0 : (k' == 0) = false := by simp_all
              cases m0 : (n' == 0)
              · have mm : (n' != 0) = true := by simp_all
                exact c_l10B_1200 op k n t k' n' t' w o12 o13 k2 j2 k1 k0 n0 nn j1 j0 m0 mm (by unfold Hid binR; first | (simp_all; done) | (simp_all [trI]; done) | (simp_all [decB]; done) | (simp_all [eqS]; done) | (simp_all [trI, decB]; done) | (simp_all [trI, eqS]; done) | (simp_all [decB, eqS]; done) | (simp_all [trI, decB, eqS]; done))
              · have mm : (n' != 0) = false := by simp_all
                exact c_l10B_1201 op k n t k' n' t' w o12 o13 k2 j2 k1 k0 n0 nn j1 j0 m0 mm (by unfold Hid binR; first | (simp_all; done) | (simp_all [trI]; done) | (simp_all [decB]; done) | (simp_all [eqS]; done) | (simp_all [trI, decB]; done) | (simp_all [trI, eqS]; done) | (simp_all [decB, eqS]; done) | (simp_all [trI, decB, eqS]; done))
          · have nn : (n != 0) = false := by simp_all
            cases j1 : (k' == 1)
            · have j0 : (k' == 0) = true := by simp_all
              exact c_l10B_121N op k n t k' n' t' w o12 o13 k2 j2 k1 k0 n0 nn j1 j0 (by unfold Hid binR; first | (simp_all; done) | (simp_all [trI]; done) | (simp_all [decB]; done) | (simp_all [eqS]; done) | (simp_all [trI, decB]; done) | (simp_all [trI, eqS]; done) | (simp_all [decB, eqS]; done) | (simp_all [trI, decB, eqS]; done))
            · have j0 : (k' == 0) = false := by simp_all
              cases m0 : (n' == 0)
              · have mm : (n' != 0) = true := by simp_all
                exact c_l10B_1210 op k n t k' n' t' w o12 o13 k2 j2 k1 k0 n0 nn j1 j0 m0 mm (by unfold Hid binR; first | (simp_all; done) | (simp_all [trI]; done) | (simp_all [decB]; done) | (simp_all [eqS]; done) | (simp_all [trI, decB]; done) | (simp_all [trI, eqS]; done) | (simp_all [decB, eqS]; done) | (simp_all [trI, decB, eqS]; done))
              · have mm : (n' != 0) = false := by simp_all
                exact c_l10B_1211 op k n t k' n' t' w o12 o13 k2 j2 k1 k0 n0 nn j1 j0 m0 mm (by unfold Hid binR; first | (simp_all; done) | (simp_all [trI]; done) | (simp_all [decB]; done) | (simp_all [eqS]; done) | (simp_all [trI, decB]; done) | (simp_all [trI, eqS]; done) | (simp_all [decB, eqS]; done) | (simp_all [trI, decB, eqS]; done))
      · exact c_l10B_12T2 op k n t k' n' t' w o12 o13 k2 j2 (by unfold Hid binR; first | (simp_all; done) | (simp_all [trI]; done) | (simp_all [decB]; done) | (simp_all [eqS]; done) | (simp_all [trI, decB]; done) | (simp_all [trI, eqS]; done) | (simp_all [decB, eqS]; done) | (simp_all [trI, decB, eqS]; done))
    · exact c_l10B_12T1 op k n t k' n' t' w o12 o13 k2 (by unfold Hid binR; first | (simp_all; done) | (simp_all [trI]; done) | (simp_all [decB]; done) | (simp_all [eqS]; done) | (simp_all [trI, decB]; done) | (simp_all [trI, eqS]; done) | (simp_all [decB, eqS]; done) | (simp_all [trI, decB, eqS]; done))

end Go.Proofs.YtcgcaomaofppiaaDoor
