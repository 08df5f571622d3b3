/-
  The signature of a text, of the program and of the reference. Conditions: key and text have at most 500 bytes; the two tables of the sums hold what they must.
-/
import Derived.Test.YtbejafbpipdbjaaDoorMacI
import Derived.Test.YtbejafbpipdbjaaDoorMacR
import Derived.Test.YtbejafbpipdbjaaDoorHexI
import Derived.Test.YtbejafbpipdbjaaDoorHexS
import Derived.Test.YtbejafbpipdbjaaDoorUrlB
import Derived.Lib.ConvBytes
namespace Go.Proofs.YtbejafbpipdbjaaDoor
set_option maxRecDepth 4000
open Go.RowKit

theorem hexL_take8 (l : List UInt8) (n : Nat) : hexL (l.take n) = (hexL l).take (2 * n) := by
  induction n generalizing l with
  | zero => simp [hexL]
  | succ n ih =>
    cases l with
    | nil => simp [hexL]
    | cons b l => rw [List.take_succ_cons, hexL_cons, hexL_cons, ih, show 2 * (n + 1) = 2 * n + 1 + 1 from by omega, List.take_succ_cons, List.take_succ_cons]
/-- The signature. -/
def sigB (k l : List UInt8) : List UInt8 := (hexL (mac k l)).take 16
theorem sigB_len (k l : List UInt8) : (sigB k l).length = 16 := by
  unfold sigB
  rw [List.length_take, hexL_length, mac_length]
  rfl
theorem has_take {w : World} {B : Nat} {A : Option Addr} {l : List UInt8} (h : Has w B A l) (n : Nat) : Has w B A (l.take n) := by
  rcases h with rfl | ⟨b, o, e, hb, hc⟩
  · exact .inl (by simp)
  · exact .inr ⟨b, o, e, hb, fun i x hx => hc i x (by
      rw [List.getElem?_take] at hx
      split at hx
      · exact hx
      · cases hx)⟩
theorem conv_has (w : World) (l : List UInt8) : Has (Go.Lib.bytesWorld w 5 (bs l)) (Go.Lib.bytesWorld w 5 (bs l)).heap.size (some ⟨w.heap.size, 0, none⟩) l := by
  refine .inr ⟨w.heap.size, 0, rfl, by rw [Go.Lib.bytesWorld_size]; omega, fun i x hx => ?_⟩
  have hi := (List.getElem?_eq_some_iff.1 hx).1
  rw [Nat.zero_add, Go.Lib.bytesWorld_cell w _ _ i (by rw [bs_size]; exact hi)]
  have e : (bs l).data.toList = l := rfl
  rw [e, List.getD_eq_getElem?_getD, hx]
  rfl
theorem conv_below (w : World) (l : List UInt8) : Below w.heap.size w (Go.Lib.bytesWorld w 5 (bs l)) :=
  ⟨rfl, rfl, rfl, by rw [Go.Lib.bytesWorld_size]; omega, fun k hk => Go.Lib.bytesWorld_at_old w _ _ k hk⟩
theorem conv_run (w : World) (l : List UInt8) : (convert 9 44 (.string (bs l))).run Tryd.prog w = .ok (.slice (some ⟨w.heap.size, 0, none⟩) (bs l).size (grownCap w (bs l).size 0 5)) (Go.Lib.bytesWorld w 5 (bs l)) :=
  Go.Lib.run_convert_string_bytes w _ _ 5 (bs l) Tryd.underlying9 Tryd.underlying44 Tryd.underlying5
set_option maxHeartbeats 1000000 in
theorem signatureOf_any (A : Option Addr) (c : Nat) (k l : List UInt8) (w : World) (hk : k.length ≤ 500) (hl : l.length ≤ 500) (hT : Tabs w) (h : Has w w.heap.size A k) :
    Calls Tryd.prog 58 #[.slice A k.length c, .string (bs l)] w fun e w' => e = .returned (.string (bs (sigB k l))) ∧ Below w.heap.size w w' := by
  have HB0 := Lib.hid (conv_below w l)
  have hkT : 7 + 1 ≤ w.heap.size := hT.2.2
  have hrun := conv_run w l
  have CM := Lib.hid (implShaMac_any A (some ⟨w.heap.size, 0, none⟩) c (grownCap w (bs l).size 0 5) k l _ (by omega) (by omega) (hT.below HB0.out hkT) (h.carry HB0.out (Nat.le_refl _) HB0.out.size) (conv_has w l))
  have hm : macOut k l = mac k l := by unfold macOut; rw [if_neg (by omega)]
  rw [hm] at CM
  obtain ⟨n, hn⟩ : ∃ n, k.length = n := ⟨_, rfl⟩
  have hsz : l.length = (bs l).size := (bs_size l).symm
  have CH := Lib.hid fun A c u hh => implHexText_any A c (mac k l) u (by rw [mac_length]; omega) hh
  rw [mac_length] at CH
  obtain ⟨x, hx⟩ : ∃ x, hexL (mac k l) = x := ⟨_, rfl⟩
  have hxl : x.length = 64 := by rw [← hx, hexL_length, mac_length]
  have HS := Lib.hid (show sigB k l = x.take 16 by unfold sigB; rw [hx])
  rw [hx] at CH
  have sx : (bs x).size = 64 := by rw [bs_size, hxl]
  have cut1 : (bs x).extract 0 16 = bs (x.take 16) := by rw [bs_cut, List.drop_zero]
  have HML := Lib.hid (mac_length k l)
  rw [hn] at CM ⊢
  rw [hsz] at CM
  have hcx : ByteArray.mk x.toArray = bs x := rfl
  rw [hcx] at CH
  clear hk hl hT h hm hn hx hxl hsz
  go_enter Tryd.func58, Tryd.ntmps58
  go_wp2_with fail
  refine CM.out.mono ?_
  rintro e w1 ⟨v, rfl, ho, b1⟩
  obtain ⟨A2, c2, rfl, -, hh⟩ := ho.has
  have HH := Lib.hid hh
  have HB1 := Lib.hid (HB0.out.trans (b1.mono HB0.out.size))
  rw [HML.out]
  clear ho hh b1 HB0 hrun CM
  go_wp2_with fail
  refine (CH.out _ _ _ HH.out).mono ?_
  rintro e w2 ⟨rfl, b2⟩
  have HB2 := Lib.hid (HB1.out.trans (b2.mono HB1.out.size))
  clear b2
  go_wp2_with fail
  go_ret
  rw [HS.out]
  exact ⟨rfl, HB2.out⟩
set_option maxHeartbeats 1000000 in
theorem l7Sign_any (A : Option Addr) (c : Nat) (k l : List UInt8) (w : World) (hk : k.length ≤ 500) (hl : l.length ≤ 500) (h : Has w w.heap.size A k) :
    Calls Tryd.prog 57 #[.slice A k.length c, .string (bs l)] w fun e w' => e = .returned (.string (bs (sigB k l))) ∧ Below w.heap.size w w' := by
  have HB0 := Lib.hid (conv_below w l)
  have hrun := conv_run w l
  have CM := Lib.hid (specShaMac_small A (some ⟨w.heap.size, 0, none⟩) c (grownCap w (bs l).size 0 5) k l _ hk hl (h.carry HB0.out (Nat.le_refl _) HB0.out.size) (conv_has w l))
  obtain ⟨n, hn⟩ : ∃ n, k.length = n := ⟨_, rfl⟩
  have hsz : l.length = (bs l).size := (bs_size l).symm
  have CH := Lib.hid fun A c u hh => specHexText_any A c ((mac k l).take 8) u (by rw [List.length_take]; omega) hh
  have e8 : ((mac k l).take 8).length = 8 := by rw [List.length_take, mac_length]; rfl
  rw [e8, hexL_take8] at CH
  have hcx : ByteArray.mk ((hexL (mac k l)).take (2 * 8)).toArray = bs (sigB k l) := rfl
  rw [hcx] at CH
  have HML := Lib.hid (mac_length k l)
  rw [hn] at CM ⊢
  rw [hsz] at CM
  clear hk hl h hn hsz e8 hcx
  go_enter Tryd.func57, Tryd.ntmps57
  go_wp2_with fail
  refine CM.out.mono ?_
  rintro e w1 ⟨v, rfl, ho, b1⟩
  obtain ⟨A2, c2, rfl, hc2, hh⟩ := ho.has
  have HH := Lib.hid hh
  have HB1 := Lib.hid (HB0.out.trans (b1.mono HB0.out.size))
  rw [HML.out] at hc2 ⊢
  clear ho hh b1 HB0 hrun CM
  go_wp2_with fail
  refine (CH.out _ _ _ (has_take HH.out 8)).mono ?_
  rintro e w2 ⟨rfl, n2, rfl⟩
  have HB2 := Lib.hid (below_draws HB1.out n2)
  go_wp2_with fail
  go_ret
  exact ⟨rfl, HB2.out⟩
end Go.Proofs.YtbejafbpipdbjaaDoor
