/- What known does: it answers true. No condition. -/
import Derived.Test.YtmemagokddfohaaUni
namespace Go.Proofs.Ytmemagokddfohaa
open Go.RowKit

set_option maxRecDepth 100000 in
set_option maxHeartbeats 4000000 in
theorem known_any (w : World) : Calls Try.prog 5 #[] w (RetV w (.bool true)) := by
  have hs : Srt [[97], [99]] := by decide
  have HS := Lib.hid hs
  clear hs
  go_enter Try.func5, Try.ntmps5
  go_wp2_with fail
  refine (callL (zs := [[97], [99]]) (allocB w _) (by decide) (sort_any (some ⟨w.heap.size, 0, none⟩) 3 [[99], [97], [99]] _ (Lies.lit w [[99], [97], [99]] 9) (by decide))).mono ?_
  rintro e w1 ⟨A, c, rfl, hc, hcm, hl, hb⟩
  have hc' : 2 ≤ c := hc
  clear hc
  go_wp2_with fail
  refine (callV (allocB w1 _) (sameV A _ c 2 [[97], [99]] [[97], [99]] _ true (hl.alloc _) (Lies.lit w1 [[97], [99]] 9) (by decide) (by decide))).mono ?_
  rintro e w2 ⟨rfl, hb2⟩
  replace hl := hl.below hb2
  replace hb := hb.trans (hb2.mono hb.size)
  clear hb2
  go_wp2_with fail
  refine (isV A c [[97], [99]] w2 true hl (by decide) (by decide)).mono ?_
  rintro e w3 ⟨rfl, hb2⟩
  replace hl := hl.below hb2
  replace hb := hb.trans (hb2.mono hb.size)
  clear hb2
  go_wp2_with fail
  refine (callV (allocB w3 _) (isV _ 2 [[97], [97]] _ false (Lies.lit w3 [[97], [97]] 9) (by decide) (by decide))).mono ?_
  rintro e w4 ⟨rfl, hb2⟩
  replace hl := hl.below hb2
  replace hb := hb.trans (hb2.mono hb.size)
  clear hb2
  go_wp2_with fail
  refine (hasV A c [[97], [99]] [99] w4 true hl HS.out (by decide) (by decide)).mono ?_
  rintro e w5 ⟨rfl, hb2⟩
  replace hl := hl.below hb2
  replace hb := hb.trans (hb2.mono hb.size)
  clear hb2
  go_wp2_with fail
  refine (hasV A c [[97], [99]] [98] w5 false hl HS.out (by decide) (by decide)).mono ?_
  rintro e w6 ⟨rfl, hb2⟩
  replace hl := hl.below hb2
  replace hb := hb.trans (hb2.mono hb.size)
  clear hb2
  go_wp2_with fail
  refine (callL (zs := [[97], [98], [99]]) (Below.refl _ w6) (by decide) (With_any A c [[97], [99]] [98] w6 hl HS.out hc' hcm (by decide))).mono ?_
  rintro e w7 ⟨A7, c7, rfl, -, -, hl7, hb2⟩
  replace hl := hl.below hb2
  replace hb := hb.trans (hb2.mono hb.size)
  clear hb2
  go_wp2_with fail
  refine (callV (allocB w7 _) (sameV A7 _ c7 3 [[97], [98], [99]] [[97], [98], [99]] _ true (hl7.alloc _) (Lies.lit w7 [[97], [98], [99]] 9) (by decide) (by decide))).mono ?_
  rintro e w8 ⟨rfl, hb2⟩
  replace hl := hl.below hb2
  replace hb := hb.trans (hb2.mono hb.size)
  clear hb2 hl7
  go_wp2_with fail
  refine (callL (zs := [[99]]) (Below.refl _ w8) (by decide) (Without_any A c [[97], [99]] [97] w8 hl HS.out hc' hcm (by decide))).mono ?_
  rintro e w9 ⟨A9, c9, rfl, -, -, -, hb2⟩
  replace hl := hl.below hb2
  replace hb := hb.trans (hb2.mono hb.size)
  clear hb2
  go_wp2_with fail
  refine (callL (zs := [[97], [98], [99]]) (allocB w9 _) (by decide) (Both_any A _ c 1 [[97], [99]] [[98]] _ (hl.alloc _) (Lies.lit w9 [[98]] 9) HS.out (by decide) hc' (by decide) hcm (by decide) (by decide) (by decide))).mono ?_
  rintro e w10 ⟨A10, c10, rfl, -, -, -, hb2⟩
  replace hl := hl.below hb2
  replace hb := hb.trans (hb2.mono hb.size)
  clear hb2
  go_wp2_with fail
  refine (callV (allocB w10 _) (withinV _ A 1 c [[97]] [[97], [99]] _ true (Lies.lit w10 [[97]] 9) (hl.alloc _) (by decide) HS.out (by decide) hc' (by decide) hcm (by decide))).mono ?_
  rintro e w11 ⟨rfl, hb2⟩
  replace hb := hb.trans (hb2.mono hb.size)
  clear hb2
  go_wp2
  go_ret
  exact ⟨rfl, hb⟩
end Go.Proofs.Ytmemagokddfohaa
