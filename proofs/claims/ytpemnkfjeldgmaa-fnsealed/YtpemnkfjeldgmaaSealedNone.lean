/-
  The last statement of the law on what is sealed, where nothing is opened.
-/
import Derived.Test.YtpemnkfjeldgmaaSealedHead
import Derived.Deep.RegionHeld
namespace Go.Proofs.Ytpemnkfjeldgmaa
open Go.RowKit

set_option maxRecDepth 1000000 in
set_option maxHeartbeats 40000000 in
theorem tailNone {K : Act → World → Prop} {R : Ending → World → Prop} {w : World} {u0 u1 u2 u3 u4 u5 u6 u7 u8 u9 u10 u12 u15 u19 u20 u21 u22 u23 u24 u25 u26 u27 u28 u29 u30 u31 u32 u33 u34 u35 u36 u37 u38 u39 u40 u41 u42 u43 u44 u45 u46 u47 u48 u49 u50 u51 u52 u53 u54 u55 u56 u57 u58 u59 u60 u61 u62 u63 u64 u65 u66 u67 u68 u69 u70 u71 u72 u73 u74 u75 u76 u77 u78 u79 u80 u81 u82 u83 u84 u85 u86 u87 u88 u89 u90 : Value} {bC cC : Nat} {ys : List Int} {aU : Option Addr} {lU kU : Nat} {us : List Int} {kk : Int} {aG : Option Addr} {cG : Nat}
    (HI : Hid (In w w.heap.size (some ⟨bC, 0, none⟩) ys.length ys)) (HU : Hid (In w w.heap.size aU lU us)) (hU0 : aU = none → kU = 0) (hK : -9223372036854775808 ≤ kk ∧ kk ≤ 9223372036854775807) 
    (hN : ∀ (v91 v92 v93 v94 v95 v96 v97 v98 v99 v100 v101 v102 v103 v104 v105 v106 v107 v108 v109 v110 v111 v112 v113 v114 v115 v116 v117 v118 v119 v120 v121 v122 v123 v124 v125 v126 v127 v128 v129 v130 v131 : Value) (w' : World), Below w.heap.size w w' → K ⟨#[u0, u1, .bool true, u3, u4, u5, u6, u7, u8, u9, u10, (.slice (some ⟨bC, 0, none⟩) ys.length cC), u12, (.slice aG 0 cG), (.bool false), u15, (.bool false), (.slice aU lU kU), (.int .i64 kk), u19, u20, u21, u22, u23, u24, u25, u26, u27, u28, u29, u30, u31, u32, u33, u34, u35, u36, u37, u38, u39, u40, u41, u42, u43, u44, u45, u46, u47, u48, u49, u50, u51, u52, u53, u54, u55, u56, u57, u58, u59, u60, u61, u62, u63, u64, u65, u66, u67, u68, u69, u70, u71, u72, u73, u74, u75, u76, u77, u78, u79, u80, u81, u82, u83, u84, u85, u86, u87, u88, u89, u90, v91, v92, v93, v94, v95, v96, v97, v98, v99, v100, v101, v102, v103, v104, v105, v106, v107, v108, v109, v110, v111, v112, v113, v114, v115, v116, v117, v118, v119, v120, v121, v122, v123, v124, v125, v126, v127, v128, v129, v130, v131], []⟩ w') :
    Code.wp Try.prog lastSealed (Exit.then K (bodyPost Try.prog Try.f3 R)) ⟨#[u0, u1, u2, u3, u4, u5, u6, u7, u8, u9, u10, (.slice (some ⟨bC, 0, none⟩) ys.length cC), u12, (.slice aG 0 cG), (.bool false), u15, (.bool false), (.slice aU lU kU), (.int .i64 kk), u19, u20, u21, u22, u23, u24, u25, u26, u27, u28, u29, u30, u31, u32, u33, u34, u35, u36, u37, u38, u39, u40, u41, u42, u43, u44, u45, u46, u47, u48, u49, u50, u51, u52, u53, u54, u55, u56, u57, u58, u59, u60, u61, u62, u63, u64, u65, u66, u67, u68, u69, u70, u71, u72, u73, u74, u75, u76, u77, u78, u79, u80, u81, u82, u83, u84, u85, u86, u87, u88, u89, u90, undef, undef, undef, undef, undef, undef, undef, undef, undef, undef, undef, undef, undef, undef, undef, undef, undef, undef, undef, undef, undef, undef, undef, undef, undef, undef, undef, undef, undef, undef, undef, undef, undef, undef, undef, undef, undef, undef, undef, undef, undef], []⟩ w := by
  have HN := hide hN
  clear hN
  have HI18 : Hid (In w.drew w.drew.heap.size (some ⟨bC, 0, none⟩) ys.length ys) := HI
  have HU18 : Hid (In w.drew w.drew.heap.size aU lU us) := HU
  have hcc : (chk ys == chk ys) = true := by simp
  have hund : (undef : Value) = .tuple #[] := rfl
  conv => arg 2; whnf
  first
    | (go_region_held (fun _ => True) (trivial)
      (first
        | (go_at_call 20; refine (checkImpl _ _ _ _ _ HI18.out).mono ?_; rintro e wa ⟨rfl, ba⟩; have HIa := hide (HI18.out.at ba); have HUa := hide (HU18.out.at ba); have HBa := hide (below_of_drew ba); clear ba)
        | (go_at_call 21; refine (checkSpec _ _ _ _ _ _ HIa.out).mono ?_; rintro e wa' ⟨rfl, hw⟩; subst wa')
        | (go_at_call 15; refine (turnImpl _ _ _ _ _ _ HUa.out hU0 hK).mono ?_; rintro e wb ⟨vb, rfl, ob, bb⟩; have HUb := hide (HUa.out.at bb); have HBb := hide (HBa.out.trans (bb.mono HBa.out.size)); have HTb := hide ob; have hcvb := own_str ob; clear bb ob)
        | (go_at_call 22; refine (turnSpec _ _ _ _ _ _ HUb.out hU0 hK).mono ?_; rintro e wd ⟨vd, rfl, od, bd⟩; have HBd := hide (HBb.out.trans (bd.mono HBb.out.size)); have hcvd := own_str od; have hcve := own_str (HTb.out.below bd); clear bd od)))
    | fail
  all_goals exact HN.out _ _ _ _ _ _ _ _ _ _ _ _ _ _ _ _ _ _ _ _ _ _ _ _ _ _ _ _ _ _ _ _ _ _ _ _ _ _ _ _ _ _ HBd.out

end Go.Proofs.Ytpemnkfjeldgmaa
