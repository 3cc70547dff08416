/- Calls of a part that was just wrapped, plain. -/
import Derived.Test.YtcpbikilgacdlaaGreatCthM3
import Derived.Test.YtcpbikilgacdlaaGreatCthM1
import Derived.StillTailTactics
import Derived.Deep.CutRange
import Derived.Test.YtcpbikilgacdlaaGreatCthM0
import Derived.Lib.SlicesCompact
namespace Go.Proofs.YtcpbikilgacdlaaGreat
set_option linter.unusedVariables false
set_option linter.unusedSimpArgs false
open Go.RowKit
abbrev FsHear : List FuncId := [207, 238]
abbrev FsLoad : List FuncId := [208]
abbrev FsSave : List FuncId := [209]
abbrev FsHeal : List FuncId := [228, 239]
structure GoodX (x : CallD) (m : List UInt8) : Prop where
 ok : callB x = true
 hk : x.fKey.length ≤ 1048576
 ht : x.fText.length ≤ 1048576
 hm : x.fMethod = m
structure Stack (mx : Int) (N b : Nat) (lv : Value) (k0 : List UInt8) (nms : List (List UInt8)) (n : Nat) (T : TypeId) (V : Value) (f : Int) : Prop where
 start : offersF f 1 = true → ∀ x, GoodX x mStart → MthOk mx N b lv k0 nms n FsStart T V "Start" #[] x
 stop : offersF f 1 = true → ∀ x, GoodX x mStop → MthOk mx N b lv k0 nms n FsStop T V "Stop" #[] x
 get : offersF f 2 = true → ∀ x, GoodX x mGet → MthOk mx N b lv k0 nms n FsGet T V "Get" #[.string ⟨x.fKey.toArray⟩] x
 put : offersF f 2 = true → ∀ x, GoodX x mPut → MthOk mx N b lv k0 nms n FsPut T V "Put" #[.string ⟨x.fKey.toArray⟩, .int .i64 x.fValue] x
 tell : offersF f 4 = true → ∀ x, GoodX x mTell → MthOk mx N b lv k0 nms n FsTell T V "Tell" #[] x
 hear : offersF f 8 = true → ∀ x, GoodX x mHear → MthOk mx N b lv k0 nms n FsHear T V "Hear" #[.int .i64 x.fValue] x
 load : offersF f 16 = true → ∀ x, GoodX x mLoad → MthOk mx N b lv k0 nms n FsLoad T V "Load" #[.string ⟨x.fText.toArray⟩] x
 save : offersF f 16 = true → ∀ x, GoodX x mSave → MthOk mx N b lv k0 nms n FsSave T V "Save" #[] x
 heal : offersF f 32 = true → ∀ x, GoodX x mHeal → MthOk mx N b lv k0 nms n FsHeal T V "Heal" #[] x
structure Ass6 (T : TypeId) (f : Int) : Prop where
 run : Meets 206 T (offersF f 1)
 keep : Meets 210 T (offersF f 2)
 tell : Meets 222 T (offersF f 4)
 hear : Meets 231 T (offersF f 8)
 save : Meets 234 T (offersF f 16)
 heal : Meets 236 T (offersF f 32)
theorem ass6_k0 : Ass6 193 0 := ⟨(show offersF 0 1 = false by decide +kernel) ▸ (show Fails 206 193 from fails_of Tryz.underlying206 (by kernel_rfl)), (show offersF 0 2 = false by decide +kernel) ▸ (show Fails 210 193 from fails_of Tryz.underlying210 (by kernel_rfl)), (show offersF 0 4 = false by decide +kernel) ▸ (show Fails 222 193 from fails_of Tryz.underlying222 (by kernel_rfl)), (show offersF 0 8 = false by decide +kernel) ▸ (show Fails 231 193 from fails_of Tryz.underlying231 (by kernel_rfl)), (show offersF 0 16 = false by decide +kernel) ▸ (show Fails 234 193 from fails_of Tryz.underlying234 (by kernel_rfl)), (show offersF 0 32 = false by decide +kernel) ▸ (show Fails 236 193 from fails_of Tryz.underlying236 (by kernel_rfl))⟩
theorem ass6_k1 : Ass6 174 1 := ⟨(show offersF 1 1 = true by decide +kernel) ▸ (show Has 206 174 from ta_has Tryz.underlying206 (by kernel_rfl)), (show offersF 1 2 = false by decide +kernel) ▸ (show Fails 210 174 from fails_of Tryz.underlying210 (by kernel_rfl)), (show offersF 1 4 = false by decide +kernel) ▸ (show Fails 222 174 from fails_of Tryz.underlying222 (by kernel_rfl)), (show offersF 1 8 = false by decide +kernel) ▸ (show Fails 231 174 from fails_of Tryz.underlying231 (by kernel_rfl)), (show offersF 1 16 = false by decide +kernel) ▸ (show Fails 234 174 from fails_of Tryz.underlying234 (by kernel_rfl)), (show offersF 1 32 = false by decide +kernel) ▸ (show Fails 236 174 from fails_of Tryz.underlying236 (by kernel_rfl))⟩
theorem ass6_k2 : Ass6 177 2 := ⟨(show offersF 2 1 = false by decide +kernel) ▸ (show Fails 206 177 from fails_of Tryz.underlying206 (by kernel_rfl)), (show offersF 2 2 = true by decide +kernel) ▸ (show Has 210 177 from ta_has Tryz.underlying210 (by kernel_rfl)), (show offersF 2 4 = false by decide +kernel) ▸ (show Fails 222 177 from fails_of Tryz.underlying222 (by kernel_rfl)), (show offersF 2 8 = false by decide +kernel) ▸ (show Fails 231 177 from fails_of Tryz.underlying231 (by kernel_rfl)), (show offersF 2 16 = false by decide +kernel) ▸ (show Fails 234 177 from fails_of Tryz.underlying234 (by kernel_rfl)), (show offersF 2 32 = false by decide +kernel) ▸ (show Fails 236 177 from fails_of Tryz.underlying236 (by kernel_rfl))⟩
theorem ass6_k3 : Ass6 180 5 := ⟨(show offersF 5 1 = true by decide +kernel) ▸ (show Has 206 180 from ta_has Tryz.underlying206 (by kernel_rfl)), (show offersF 5 2 = false by decide +kernel) ▸ (show Fails 210 180 from fails_of Tryz.underlying210 (by kernel_rfl)), (show offersF 5 4 = true by decide +kernel) ▸ (show Has 222 180 from ta_has Tryz.underlying222 (by kernel_rfl)), (show offersF 5 8 = false by decide +kernel) ▸ (show Fails 231 180 from fails_of Tryz.underlying231 (by kernel_rfl)), (show offersF 5 16 = false by decide +kernel) ▸ (show Fails 234 180 from fails_of Tryz.underlying234 (by kernel_rfl)), (show offersF 5 32 = false by decide +kernel) ▸ (show Fails 236 180 from fails_of Tryz.underlying236 (by kernel_rfl))⟩
theorem ass6_k4 : Ass6 182 3 := ⟨(show offersF 3 1 = true by decide +kernel) ▸ (show Has 206 182 from ta_has Tryz.underlying206 (by kernel_rfl)), (show offersF 3 2 = true by decide +kernel) ▸ (show Has 210 182 from ta_has Tryz.underlying210 (by kernel_rfl)), (show offersF 3 4 = false by decide +kernel) ▸ (show Fails 222 182 from fails_of Tryz.underlying222 (by kernel_rfl)), (show offersF 3 8 = false by decide +kernel) ▸ (show Fails 231 182 from fails_of Tryz.underlying231 (by kernel_rfl)), (show offersF 3 16 = false by decide +kernel) ▸ (show Fails 234 182 from fails_of Tryz.underlying234 (by kernel_rfl)), (show offersF 3 32 = false by decide +kernel) ▸ (show Fails 236 182 from fails_of Tryz.underlying236 (by kernel_rfl))⟩
theorem ass6_k5 : Ass6 185 9 := ⟨(show offersF 9 1 = true by decide +kernel) ▸ (show Has 206 185 from ta_has Tryz.underlying206 (by kernel_rfl)), (show offersF 9 2 = false by decide +kernel) ▸ (show Fails 210 185 from fails_of Tryz.underlying210 (by kernel_rfl)), (show offersF 9 4 = false by decide +kernel) ▸ (show Fails 222 185 from fails_of Tryz.underlying222 (by kernel_rfl)), (show offersF 9 8 = true by decide +kernel) ▸ (show Has 231 185 from ta_has Tryz.underlying231 (by kernel_rfl)), (show offersF 9 16 = false by decide +kernel) ▸ (show Fails 234 185 from fails_of Tryz.underlying234 (by kernel_rfl)), (show offersF 9 32 = false by decide +kernel) ▸ (show Fails 236 185 from fails_of Tryz.underlying236 (by kernel_rfl))⟩
theorem ass6_k6 : Ass6 188 19 := ⟨(show offersF 19 1 = true by decide +kernel) ▸ (show Has 206 188 from ta_has Tryz.underlying206 (by kernel_rfl)), (show offersF 19 2 = true by decide +kernel) ▸ (show Has 210 188 from ta_has Tryz.underlying210 (by kernel_rfl)), (show offersF 19 4 = false by decide +kernel) ▸ (show Fails 222 188 from fails_of Tryz.underlying222 (by kernel_rfl)), (show offersF 19 8 = false by decide +kernel) ▸ (show Fails 231 188 from fails_of Tryz.underlying231 (by kernel_rfl)), (show offersF 19 16 = true by decide +kernel) ▸ (show Has 234 188 from ta_has Tryz.underlying234 (by kernel_rfl)), (show offersF 19 32 = false by decide +kernel) ▸ (show Fails 236 188 from fails_of Tryz.underlying236 (by kernel_rfl))⟩
theorem ass6_k7 : Ass6 191 63 := ⟨(show offersF 63 1 = true by decide +kernel) ▸ (show Has 206 191 from ta_has Tryz.underlying206 (by kernel_rfl)), (show offersF 63 2 = true by decide +kernel) ▸ (show Has 210 191 from ta_has Tryz.underlying210 (by kernel_rfl)), (show offersF 63 4 = true by decide +kernel) ▸ (show Has 222 191 from ta_has Tryz.underlying222 (by kernel_rfl)), (show offersF 63 8 = true by decide +kernel) ▸ (show Has 231 191 from ta_has Tryz.underlying231 (by kernel_rfl)), (show offersF 63 16 = true by decide +kernel) ▸ (show Has 234 191 from ta_has Tryz.underlying234 (by kernel_rfl)), (show offersF 63 32 = true by decide +kernel) ▸ (show Has 236 191 from ta_has Tryz.underlying236 (by kernel_rfl))⟩
theorem ass6_l0 : Ass6 226 0 := ⟨(show offersF 0 1 = false by decide +kernel) ▸ (show Fails 206 226 from fails_of Tryz.underlying206 (by kernel_rfl)), (show offersF 0 2 = false by decide +kernel) ▸ (show Fails 210 226 from fails_of Tryz.underlying210 (by kernel_rfl)), (show offersF 0 4 = false by decide +kernel) ▸ (show Fails 222 226 from fails_of Tryz.underlying222 (by kernel_rfl)), (show offersF 0 8 = false by decide +kernel) ▸ (show Fails 231 226 from fails_of Tryz.underlying231 (by kernel_rfl)), (show offersF 0 16 = false by decide +kernel) ▸ (show Fails 234 226 from fails_of Tryz.underlying234 (by kernel_rfl)), (show offersF 0 32 = false by decide +kernel) ▸ (show Fails 236 226 from fails_of Tryz.underlying236 (by kernel_rfl))⟩
theorem ass6_l1 : Ass6 208 1 := ⟨(show offersF 1 1 = true by decide +kernel) ▸ (show Has 206 208 from ta_has Tryz.underlying206 (by kernel_rfl)), (show offersF 1 2 = false by decide +kernel) ▸ (show Fails 210 208 from fails_of Tryz.underlying210 (by kernel_rfl)), (show offersF 1 4 = false by decide +kernel) ▸ (show Fails 222 208 from fails_of Tryz.underlying222 (by kernel_rfl)), (show offersF 1 8 = false by decide +kernel) ▸ (show Fails 231 208 from fails_of Tryz.underlying231 (by kernel_rfl)), (show offersF 1 16 = false by decide +kernel) ▸ (show Fails 234 208 from fails_of Tryz.underlying234 (by kernel_rfl)), (show offersF 1 32 = false by decide +kernel) ▸ (show Fails 236 208 from fails_of Tryz.underlying236 (by kernel_rfl))⟩
theorem ass6_l2 : Ass6 212 2 := ⟨(show offersF 2 1 = false by decide +kernel) ▸ (show Fails 206 212 from fails_of Tryz.underlying206 (by kernel_rfl)), (show offersF 2 2 = true by decide +kernel) ▸ (show Has 210 212 from ta_has Tryz.underlying210 (by kernel_rfl)), (show offersF 2 4 = false by decide +kernel) ▸ (show Fails 222 212 from fails_of Tryz.underlying222 (by kernel_rfl)), (show offersF 2 8 = false by decide +kernel) ▸ (show Fails 231 212 from fails_of Tryz.underlying231 (by kernel_rfl)), (show offersF 2 16 = false by decide +kernel) ▸ (show Fails 234 212 from fails_of Tryz.underlying234 (by kernel_rfl)), (show offersF 2 32 = false by decide +kernel) ▸ (show Fails 236 212 from fails_of Tryz.underlying236 (by kernel_rfl))⟩
theorem ass6_l3 : Ass6 213 6 := ⟨(show offersF 6 1 = false by decide +kernel) ▸ (show Fails 206 213 from fails_of Tryz.underlying206 (by kernel_rfl)), (show offersF 6 2 = true by decide +kernel) ▸ (show Has 210 213 from ta_has Tryz.underlying210 (by kernel_rfl)), (show offersF 6 4 = true by decide +kernel) ▸ (show Has 222 213 from ta_has Tryz.underlying222 (by kernel_rfl)), (show offersF 6 8 = false by decide +kernel) ▸ (show Fails 231 213 from fails_of Tryz.underlying231 (by kernel_rfl)), (show offersF 6 16 = false by decide +kernel) ▸ (show Fails 234 213 from fails_of Tryz.underlying234 (by kernel_rfl)), (show offersF 6 32 = false by decide +kernel) ▸ (show Fails 236 213 from fails_of Tryz.underlying236 (by kernel_rfl))⟩
theorem ass6_l4 : Ass6 217 3 := ⟨(show offersF 3 1 = true by decide +kernel) ▸ (show Has 206 217 from ta_has Tryz.underlying206 (by kernel_rfl)), (show offersF 3 2 = true by decide +kernel) ▸ (show Has 210 217 from ta_has Tryz.underlying210 (by kernel_rfl)), (show offersF 3 4 = false by decide +kernel) ▸ (show Fails 222 217 from fails_of Tryz.underlying222 (by kernel_rfl)), (show offersF 3 8 = false by decide +kernel) ▸ (show Fails 231 217 from fails_of Tryz.underlying231 (by kernel_rfl)), (show offersF 3 16 = false by decide +kernel) ▸ (show Fails 234 217 from fails_of Tryz.underlying234 (by kernel_rfl)), (show offersF 3 32 = false by decide +kernel) ▸ (show Fails 236 217 from fails_of Tryz.underlying236 (by kernel_rfl))⟩
theorem ass6_l5 : Ass6 218 2 := ⟨(show offersF 2 1 = false by decide +kernel) ▸ (show Fails 206 218 from fails_of Tryz.underlying206 (by kernel_rfl)), (show offersF 2 2 = true by decide +kernel) ▸ (show Has 210 218 from ta_has Tryz.underlying210 (by kernel_rfl)), (show offersF 2 4 = false by decide +kernel) ▸ (show Fails 222 218 from fails_of Tryz.underlying222 (by kernel_rfl)), (show offersF 2 8 = false by decide +kernel) ▸ (show Fails 231 218 from fails_of Tryz.underlying231 (by kernel_rfl)), (show offersF 2 16 = false by decide +kernel) ▸ (show Fails 234 218 from fails_of Tryz.underlying234 (by kernel_rfl)), (show offersF 2 32 = false by decide +kernel) ▸ (show Fails 236 218 from fails_of Tryz.underlying236 (by kernel_rfl))⟩
theorem ass6_l6 : Ass6 219 9 := ⟨(show offersF 9 1 = true by decide +kernel) ▸ (show Has 206 219 from ta_has Tryz.underlying206 (by kernel_rfl)), (show offersF 9 2 = false by decide +kernel) ▸ (show Fails 210 219 from fails_of Tryz.underlying210 (by kernel_rfl)), (show offersF 9 4 = false by decide +kernel) ▸ (show Fails 222 219 from fails_of Tryz.underlying222 (by kernel_rfl)), (show offersF 9 8 = true by decide +kernel) ▸ (show Has 231 219 from ta_has Tryz.underlying231 (by kernel_rfl)), (show offersF 9 16 = false by decide +kernel) ▸ (show Fails 234 219 from fails_of Tryz.underlying234 (by kernel_rfl)), (show offersF 9 32 = false by decide +kernel) ▸ (show Fails 236 219 from fails_of Tryz.underlying236 (by kernel_rfl))⟩
theorem ass6_l7 : Ass6 220 33 := ⟨(show offersF 33 1 = true by decide +kernel) ▸ (show Has 206 220 from ta_has Tryz.underlying206 (by kernel_rfl)), (show offersF 33 2 = false by decide +kernel) ▸ (show Fails 210 220 from fails_of Tryz.underlying210 (by kernel_rfl)), (show offersF 33 4 = false by decide +kernel) ▸ (show Fails 222 220 from fails_of Tryz.underlying222 (by kernel_rfl)), (show offersF 33 8 = false by decide +kernel) ▸ (show Fails 231 220 from fails_of Tryz.underlying231 (by kernel_rfl)), (show offersF 33 16 = false by decide +kernel) ▸ (show Fails 234 220 from fails_of Tryz.underlying234 (by kernel_rfl)), (show offersF 33 32 = true by decide +kernel) ▸ (show Has 236 220 from ta_has Tryz.underlying236 (by kernel_rfl))⟩
theorem ass6_l8 : Ass6 224 4 := ⟨(show offersF 4 1 = false by decide +kernel) ▸ (show Fails 206 224 from fails_of Tryz.underlying206 (by kernel_rfl)), (show offersF 4 2 = false by decide +kernel) ▸ (show Fails 210 224 from fails_of Tryz.underlying210 (by kernel_rfl)), (show offersF 4 4 = true by decide +kernel) ▸ (show Has 222 224 from ta_has Tryz.underlying222 (by kernel_rfl)), (show offersF 4 8 = false by decide +kernel) ▸ (show Fails 231 224 from fails_of Tryz.underlying231 (by kernel_rfl)), (show offersF 4 16 = false by decide +kernel) ▸ (show Fails 234 224 from fails_of Tryz.underlying234 (by kernel_rfl)), (show offersF 4 32 = false by decide +kernel) ▸ (show Fails 236 224 from fails_of Tryz.underlying236 (by kernel_rfl))⟩
theorem cnt_lo {mx : Int} {N b : Nat} {lv cv : Value} {k0 : List UInt8} {nms : List (List UInt8)} {p : PartD} {w : World} (h : Ready mx N b lv cv k0 nms p w) : -9223372036854775808 ≤ p.fCore.fCount := by have := (core_cnt (partB_core h.ok)).1; omega
theorem cells_lo {mx : Int} {N b : Nat} {lv cv : Value} {k0 : List UInt8} {nms : List (List UInt8)} {p : PartD} {w : World} (h : Ready mx N b lv cv k0 nms p w) : p.fCore.fCells.length ≤ 4194304 := by have := core_len (partB_core h.ok); omega
theorem keys_lo {mx : Int} {N b : Nat} {lv cv : Value} {k0 : List UInt8} {nms : List (List UInt8)} {p : PartD} {w : World} (h : Ready mx N b lv cv k0 nms p w) : ∀ c ∈ p.fCore.fCells, c.fKey.length ≤ maxLen := fun c hc => by have := core_keys (partB_core h.ok) c hc; unfold maxLen; omega
theorem base_of {mx : Int} {N b : Nat} {lv cv : Value} {k0 : List UInt8} {nms : List (List UInt8)} {p : PartD} {w w' : World} {x : CallD} {e : Ending} {out : CoreD × ReplyD} (hR : Ready mx N b lv cv k0 nms p w) (ho : doD p.fCore x = out) (h : Does N b cv out w e w') : Does4 N b lv (lyDo 0 p x) w e w' := by
 obtain ⟨he, cv', hs, hk⟩ := h
 obtain ⟨h1, h2⟩ := hR.st.coreDone hs hk
 show Does4 N b lv (⟨(doD p.fCore x).1, p.fLayers⟩, (doD p.fCore x).2) w e w'
 rw [ho]
 exact ⟨he, cv', h1, h2⟩
theorem good_do {d : CoreD} {x : CallD} {k0 m : List UInt8} (hc : coreB d = true) (y : GoodX x m) (hk : d.fKind = k0) (ho : offersF (kfI (kindI k0)) (wantF m) = true) : doD d x = mthD d x :=
 doD_good hc y.ok (by rw [y.hm]; show offersF (kfI (kindI d.fKind)) _ = true; rw [hk]; exact ho)
theorem stack_k0 (mx : Int) (N b : Nat) (lv : Value) (nms : List (List UInt8)) : Stack mx N b lv (kindN 0) nms 0 193 (.agg #[.pointer (some ⟨b, 0, none⟩)]) 0 where
 start := fun h => absurd h (by decide +kernel)
 stop := fun h => absurd h (by decide +kernel)
 get := fun h => absurd h (by decide +kernel)
 put := fun h => absurd h (by decide +kernel)
 tell := fun h => absurd h (by decide +kernel)
 hear := fun h => absurd h (by decide +kernel)
 load := fun h => absurd h (by decide +kernel)
 save := fun h => absurd h (by decide +kernel)
 heal := fun h => absurd h (by decide +kernel)
theorem stack_k1 (mx : Int) (N b : Nat) (lv : Value) (nms : List (List UInt8)) : Stack mx N b lv (kindN 1) nms 0 174 (.agg #[.pointer (some ⟨b, 0, none⟩), .pointer (some ⟨b, 0, none⟩)]) 1 where
 start := fun _ x y => ⟨194, .agg #[.pointer (some ⟨b, 0, none⟩)], by simp, method_1_Start b, nilAhead_1_Start b, fun p cv w hR => (start_c N b cv p.fCore w hR.st.core (cnt_lo hR)).mono fun e w' h => base_of hR ((good_do (partB_core hR.ok) y hR.kind (by decide +kernel)).trans (mthD_Start y.hm)) h⟩
 stop := fun _ x y => ⟨195, .agg #[.pointer (some ⟨b, 0, none⟩)], by simp, method_1_Stop b, nilAhead_1_Stop b, fun p cv w hR => (stop_c N b cv p.fCore w hR.st.core (cnt_lo hR)).mono fun e w' h => base_of hR ((good_do (partB_core hR.ok) y hR.kind (by decide +kernel)).trans (mthD_Stop y.hm)) h⟩
 get := fun h => absurd h (by decide +kernel)
 put := fun h => absurd h (by decide +kernel)
 tell := fun h => absurd h (by decide +kernel)
 hear := fun h => absurd h (by decide +kernel)
 load := fun h => absurd h (by decide +kernel)
 save := fun h => absurd h (by decide +kernel)
 heal := fun h => absurd h (by decide +kernel)
theorem stack_k2 (mx : Int) (N b : Nat) (lv : Value) (nms : List (List UInt8)) : Stack mx N b lv (kindN 2) nms 0 177 (.agg #[.pointer (some ⟨b, 0, none⟩), .pointer (some ⟨b, 0, none⟩)]) 2 where
 start := fun h => absurd h (by decide +kernel)
 stop := fun h => absurd h (by decide +kernel)
 get := fun _ x y => ⟨197, .agg #[.pointer (some ⟨b, 0, none⟩)], by simp, method_2_Get b, nilAhead_2_Get b, fun p cv w hR => (get_c N b cv p.fCore x.fKey w hR.st.core (cells_lo hR)).mono fun e w' h => base_of hR ((good_do (partB_core hR.ok) y hR.kind (by decide +kernel)).trans (mthD_Get y.hm)) h⟩
 put := fun _ x y => ⟨198, .agg #[.pointer (some ⟨b, 0, none⟩)], by simp, method_2_Put b, nilAhead_2_Put b, fun p cv w hR => (put_c N b cv p.fCore x (partB_core hR.ok) (cnt_lo hR) y.hk w hR.st.core).mono fun e w' h => base_of hR ((good_do (partB_core hR.ok) y hR.kind (by decide +kernel)).trans (mthD_Put y.hm)) h⟩
 tell := fun h => absurd h (by decide +kernel)
 hear := fun h => absurd h (by decide +kernel)
 load := fun h => absurd h (by decide +kernel)
 save := fun h => absurd h (by decide +kernel)
 heal := fun h => absurd h (by decide +kernel)
theorem stack_k3 (mx : Int) (N b : Nat) (lv : Value) (nms : List (List UInt8)) : Stack mx N b lv (kindN 3) nms 0 180 (.agg #[.pointer (some ⟨b, 0, none⟩), .pointer (some ⟨b, 0, none⟩), .pointer (some ⟨b, 0, none⟩)]) 5 where
 start := fun _ x y => ⟨194, .agg #[.pointer (some ⟨b, 0, none⟩)], by simp, method_3_Start b, nilAhead_3_Start b, fun p cv w hR => (start_c N b cv p.fCore w hR.st.core (cnt_lo hR)).mono fun e w' h => base_of hR ((good_do (partB_core hR.ok) y hR.kind (by decide +kernel)).trans (mthD_Start y.hm)) h⟩
 stop := fun _ x y => ⟨195, .agg #[.pointer (some ⟨b, 0, none⟩)], by simp, method_3_Stop b, nilAhead_3_Stop b, fun p cv w hR => (stop_c N b cv p.fCore w hR.st.core (cnt_lo hR)).mono fun e w' h => base_of hR ((good_do (partB_core hR.ok) y hR.kind (by decide +kernel)).trans (mthD_Stop y.hm)) h⟩
 get := fun h => absurd h (by decide +kernel)
 put := fun h => absurd h (by decide +kernel)
 tell := fun _ x y => ⟨206, .agg #[.pointer (some ⟨b, 0, none⟩)], by simp, method_3_Tell b, nilAhead_3_Tell b, fun p cv w hR => (tell_c N b cv p.fCore w hR.st.core (cnt_lo hR)).mono fun e w' h => base_of hR ((good_do (partB_core hR.ok) y hR.kind (by decide +kernel)).trans (mthD_Tell y.hm)) h⟩
 hear := fun h => absurd h (by decide +kernel)
 load := fun h => absurd h (by decide +kernel)
 save := fun h => absurd h (by decide +kernel)
 heal := fun h => absurd h (by decide +kernel)
theorem stack_k4 (mx : Int) (N b : Nat) (lv : Value) (nms : List (List UInt8)) : Stack mx N b lv (kindN 4) nms 0 182 (.agg #[.pointer (some ⟨b, 0, none⟩), .pointer (some ⟨b, 0, none⟩), .pointer (some ⟨b, 0, none⟩)]) 3 where
 start := fun _ x y => ⟨194, .agg #[.pointer (some ⟨b, 0, none⟩)], by simp, method_4_Start b, nilAhead_4_Start b, fun p cv w hR => (start_c N b cv p.fCore w hR.st.core (cnt_lo hR)).mono fun e w' h => base_of hR ((good_do (partB_core hR.ok) y hR.kind (by decide +kernel)).trans (mthD_Start y.hm)) h⟩
 stop := fun _ x y => ⟨195, .agg #[.pointer (some ⟨b, 0, none⟩)], by simp, method_4_Stop b, nilAhead_4_Stop b, fun p cv w hR => (stop_c N b cv p.fCore w hR.st.core (cnt_lo hR)).mono fun e w' h => base_of hR ((good_do (partB_core hR.ok) y hR.kind (by decide +kernel)).trans (mthD_Stop y.hm)) h⟩
 get := fun _ x y => ⟨197, .agg #[.pointer (some ⟨b, 0, none⟩)], by simp, method_4_Get b, nilAhead_4_Get b, fun p cv w hR => (get_c N b cv p.fCore x.fKey w hR.st.core (cells_lo hR)).mono fun e w' h => base_of hR ((good_do (partB_core hR.ok) y hR.kind (by decide +kernel)).trans (mthD_Get y.hm)) h⟩
 put := fun _ x y => ⟨198, .agg #[.pointer (some ⟨b, 0, none⟩)], by simp, method_4_Put b, nilAhead_4_Put b, fun p cv w hR => (put_c N b cv p.fCore x (partB_core hR.ok) (cnt_lo hR) y.hk w hR.st.core).mono fun e w' h => base_of hR ((good_do (partB_core hR.ok) y hR.kind (by decide +kernel)).trans (mthD_Put y.hm)) h⟩
 tell := fun h => absurd h (by decide +kernel)
 hear := fun h => absurd h (by decide +kernel)
 load := fun h => absurd h (by decide +kernel)
 save := fun h => absurd h (by decide +kernel)
 heal := fun h => absurd h (by decide +kernel)
theorem stack_k5 (mx : Int) (N b : Nat) (lv : Value) (nms : List (List UInt8)) : Stack mx N b lv (kindN 5) nms 0 185 (.agg #[.pointer (some ⟨b, 0, none⟩), .pointer (some ⟨b, 0, none⟩), .pointer (some ⟨b, 0, none⟩)]) 9 where
 start := fun _ x y => ⟨194, .agg #[.pointer (some ⟨b, 0, none⟩)], by simp, method_5_Start b, nilAhead_5_Start b, fun p cv w hR => (start_c N b cv p.fCore w hR.st.core (cnt_lo hR)).mono fun e w' h => base_of hR ((good_do (partB_core hR.ok) y hR.kind (by decide +kernel)).trans (mthD_Start y.hm)) h⟩
 stop := fun _ x y => ⟨195, .agg #[.pointer (some ⟨b, 0, none⟩)], by simp, method_5_Stop b, nilAhead_5_Stop b, fun p cv w hR => (stop_c N b cv p.fCore w hR.st.core (cnt_lo hR)).mono fun e w' h => base_of hR ((good_do (partB_core hR.ok) y hR.kind (by decide +kernel)).trans (mthD_Stop y.hm)) h⟩
 get := fun h => absurd h (by decide +kernel)
 put := fun h => absurd h (by decide +kernel)
 tell := fun h => absurd h (by decide +kernel)
 hear := fun _ x y => ⟨207, .agg #[.pointer (some ⟨b, 0, none⟩)], by simp, method_5_Hear b, nilAhead_5_Hear b, fun p cv w hR => (hear_c N b cv p.fCore x.fValue w hR.st.core (cnt_lo hR)).mono fun e w' h => base_of hR ((good_do (partB_core hR.ok) y hR.kind (by decide +kernel)).trans (mthD_Hear y.hm)) h⟩
 load := fun h => absurd h (by decide +kernel)
 save := fun h => absurd h (by decide +kernel)
 heal := fun h => absurd h (by decide +kernel)
theorem stack_k6 (mx : Int) (N b : Nat) (lv : Value) (nms : List (List UInt8)) : Stack mx N b lv (kindN 6) nms 0 188 (.agg #[.pointer (some ⟨b, 0, none⟩), .pointer (some ⟨b, 0, none⟩), .pointer (some ⟨b, 0, none⟩), .pointer (some ⟨b, 0, none⟩)]) 19 where
 start := fun _ x y => ⟨194, .agg #[.pointer (some ⟨b, 0, none⟩)], by simp, method_6_Start b, nilAhead_6_Start b, fun p cv w hR => (start_c N b cv p.fCore w hR.st.core (cnt_lo hR)).mono fun e w' h => base_of hR ((good_do (partB_core hR.ok) y hR.kind (by decide +kernel)).trans (mthD_Start y.hm)) h⟩
 stop := fun _ x y => ⟨195, .agg #[.pointer (some ⟨b, 0, none⟩)], by simp, method_6_Stop b, nilAhead_6_Stop b, fun p cv w hR => (stop_c N b cv p.fCore w hR.st.core (cnt_lo hR)).mono fun e w' h => base_of hR ((good_do (partB_core hR.ok) y hR.kind (by decide +kernel)).trans (mthD_Stop y.hm)) h⟩
 get := fun _ x y => ⟨197, .agg #[.pointer (some ⟨b, 0, none⟩)], by simp, method_6_Get b, nilAhead_6_Get b, fun p cv w hR => (get_c N b cv p.fCore x.fKey w hR.st.core (cells_lo hR)).mono fun e w' h => base_of hR ((good_do (partB_core hR.ok) y hR.kind (by decide +kernel)).trans (mthD_Get y.hm)) h⟩
 put := fun _ x y => ⟨198, .agg #[.pointer (some ⟨b, 0, none⟩)], by simp, method_6_Put b, nilAhead_6_Put b, fun p cv w hR => (put_c N b cv p.fCore x (partB_core hR.ok) (cnt_lo hR) y.hk w hR.st.core).mono fun e w' h => base_of hR ((good_do (partB_core hR.ok) y hR.kind (by decide +kernel)).trans (mthD_Put y.hm)) h⟩
 tell := fun h => absurd h (by decide +kernel)
 hear := fun h => absurd h (by decide +kernel)
 load := fun _ x y => ⟨208, .agg #[.pointer (some ⟨b, 0, none⟩)], by simp, method_6_Load b, nilAhead_6_Load b, fun p cv w hR => (load_c N b cv p.fCore x.fText mx w hR.st.core hR.hN hR.hM y.ht).mono fun e w' h => base_of hR ((good_do (partB_core hR.ok) y hR.kind (by decide +kernel)).trans (mthD_Load y.hm)) h⟩
 save := fun _ x y => ⟨209, .agg #[.pointer (some ⟨b, 0, none⟩)], by simp, method_6_Save b, nilAhead_6_Save b, fun p cv w hR => (save_c N b cv p.fCore w hR.st.core (cells_lo hR) (keys_lo hR)).mono fun e w' h => base_of hR ((good_do (partB_core hR.ok) y hR.kind (by decide +kernel)).trans (mthD_Save y.hm)) h⟩
 heal := fun h => absurd h (by decide +kernel)
theorem stack_k7 (mx : Int) (N b : Nat) (lv : Value) (nms : List (List UInt8)) : Stack mx N b lv (kindN 7) nms 0 191 (.agg #[.pointer (some ⟨b, 0, none⟩), .pointer (some ⟨b, 0, none⟩), .pointer (some ⟨b, 0, none⟩), .pointer (some ⟨b, 0, none⟩), .pointer (some ⟨b, 0, none⟩), .pointer (some ⟨b, 0, none⟩), .pointer (some ⟨b, 0, none⟩)]) 63 where
 start := fun _ x y => ⟨194, .agg #[.pointer (some ⟨b, 0, none⟩)], by simp, method_7_Start b, nilAhead_7_Start b, fun p cv w hR => (start_c N b cv p.fCore w hR.st.core (cnt_lo hR)).mono fun e w' h => base_of hR ((good_do (partB_core hR.ok) y hR.kind (by decide +kernel)).trans (mthD_Start y.hm)) h⟩
 stop := fun _ x y => ⟨195, .agg #[.pointer (some ⟨b, 0, none⟩)], by simp, method_7_Stop b, nilAhead_7_Stop b, fun p cv w hR => (stop_c N b cv p.fCore w hR.st.core (cnt_lo hR)).mono fun e w' h => base_of hR ((good_do (partB_core hR.ok) y hR.kind (by decide +kernel)).trans (mthD_Stop y.hm)) h⟩
 get := fun _ x y => ⟨197, .agg #[.pointer (some ⟨b, 0, none⟩)], by simp, method_7_Get b, nilAhead_7_Get b, fun p cv w hR => (get_c N b cv p.fCore x.fKey w hR.st.core (cells_lo hR)).mono fun e w' h => base_of hR ((good_do (partB_core hR.ok) y hR.kind (by decide +kernel)).trans (mthD_Get y.hm)) h⟩
 put := fun _ x y => ⟨198, .agg #[.pointer (some ⟨b, 0, none⟩)], by simp, method_7_Put b, nilAhead_7_Put b, fun p cv w hR => (put_c N b cv p.fCore x (partB_core hR.ok) (cnt_lo hR) y.hk w hR.st.core).mono fun e w' h => base_of hR ((good_do (partB_core hR.ok) y hR.kind (by decide +kernel)).trans (mthD_Put y.hm)) h⟩
 tell := fun _ x y => ⟨206, .agg #[.pointer (some ⟨b, 0, none⟩)], by simp, method_7_Tell b, nilAhead_7_Tell b, fun p cv w hR => (tell_c N b cv p.fCore w hR.st.core (cnt_lo hR)).mono fun e w' h => base_of hR ((good_do (partB_core hR.ok) y hR.kind (by decide +kernel)).trans (mthD_Tell y.hm)) h⟩
 hear := fun _ x y => ⟨207, .agg #[.pointer (some ⟨b, 0, none⟩)], by simp, method_7_Hear b, nilAhead_7_Hear b, fun p cv w hR => (hear_c N b cv p.fCore x.fValue w hR.st.core (cnt_lo hR)).mono fun e w' h => base_of hR ((good_do (partB_core hR.ok) y hR.kind (by decide +kernel)).trans (mthD_Hear y.hm)) h⟩
 load := fun _ x y => ⟨208, .agg #[.pointer (some ⟨b, 0, none⟩)], by simp, method_7_Load b, nilAhead_7_Load b, fun p cv w hR => (load_c N b cv p.fCore x.fText mx w hR.st.core hR.hN hR.hM y.ht).mono fun e w' h => base_of hR ((good_do (partB_core hR.ok) y hR.kind (by decide +kernel)).trans (mthD_Load y.hm)) h⟩
 save := fun _ x y => ⟨209, .agg #[.pointer (some ⟨b, 0, none⟩)], by simp, method_7_Save b, nilAhead_7_Save b, fun p cv w hR => (save_c N b cv p.fCore w hR.st.core (cells_lo hR) (keys_lo hR)).mono fun e w' h => base_of hR ((good_do (partB_core hR.ok) y hR.kind (by decide +kernel)).trans (mthD_Save y.hm)) h⟩
 heal := fun _ x y => ⟨228, .agg #[.pointer (some ⟨b, 0, none⟩)], by simp, method_7_Heal b, nilAhead_7_Heal b, fun p cv w hR => (heal_c N b cv p.fCore w hR.st.core (cnt_lo hR)).mono fun e w' h => base_of hR ((good_do (partB_core hR.ok) y hR.kind (by decide +kernel)).trans (mthD_Heal y.hm)) h⟩
theorem stack_kind (mx : Int) (N b : Nat) (lv : Value) (nms : List (List UInt8)) (j : Nat) (hj : j < 8) : ∃ T V, partV b j = .iface T V ∧ Stack mx N b lv (kindN j) nms 0 T V (kfN j) ∧ Ass6 T (kfN j) := by
 rcases (show j = 0 ∨ j = 1 ∨ j = 2 ∨ j = 3 ∨ j = 4 ∨ j = 5 ∨ j = 6 ∨ j = 7 by omega) with rfl | rfl | rfl | rfl | rfl | rfl | rfl | rfl
 ·exact ⟨_, _, rfl, stack_k0 mx N b lv nms, ass6_k0⟩
 ·exact ⟨_, _, rfl, stack_k1 mx N b lv nms, ass6_k1⟩
 ·exact ⟨_, _, rfl, stack_k2 mx N b lv nms, ass6_k2⟩
 ·exact ⟨_, _, rfl, stack_k3 mx N b lv nms, ass6_k3⟩
 ·exact ⟨_, _, rfl, stack_k4 mx N b lv nms, ass6_k4⟩
 ·exact ⟨_, _, rfl, stack_k5 mx N b lv nms, ass6_k5⟩
 ·exact ⟨_, _, rfl, stack_k6 mx N b lv nms, ass6_k6⟩
 ·exact ⟨_, _, rfl, stack_k7 mx N b lv nms, ass6_k7⟩
set_option maxRecDepth 100000 in
set_option maxHeartbeats 1600000 in
theorem catch4 (nx np nr : Nat) (x : CallD) (T : TypeId) (V : Value) (f : Int) (pv : Value) (w : World) (hf : FaceAt w T V f) (hb : Boxes nx np nr x (.iface T V) w) :
  CallsD Tryz.prog 152 #[.pointer (some ⟨nx, 0, none⟩), .pointer (some ⟨np, 0, none⟩), .pointer (some ⟨nr, 0, none⟩)] (.panicking ({ v := .iface Tryz.prog.rt.typeAssertionError pv, recovered := false } :: [])) w fun e u' w' =>
   e = .returned (.tuple #[]) ∧ u' = .panicking ({ v := .iface Tryz.prog.rt.typeAssertionError pv, recovered := true } :: []) ∧ ∃ w1, Below w.heap.size w w1 ∧ w' = put5 w1 nr ⟨1, 0, [], wantF x.fMethod, f⟩ := by
 have HX := Lib.hid hb
 have x0 := hb.x0
 have p0 := hb.p0
 have HW := Lib.hid (fun W => implWant_any ⟨x.fMethod.toArray⟩ W)
 simp only [List.toList_toArray] at HW
 obtain ⟨F, rcv, hF, hfm, hfn, HF0⟩ := hf
 have HF := Lib.hid HF0
 generalize wantF x.fMethod = want at *
 clear HF0 hb
 rcases hF with rfl | rfl
 case inl =>
  refine callsD_of_wpS Tryz.func152 rfl fun c₀ cs hu => ?_
  apply wpS_seq
  apply wpS_region
  simp [wpOpsS, go_sem, recoverD, hu, Tryz.ntmps152, Exit.thenS]
  refine wpS_cond (t := true) (by simp [Act.eval, Array.replicate]) ?_
  simp only [if_true]
  refine wpS_of_wp ?_
  go_region_with (first
   |(go_at_call 46; refine (HW.out _).mono ?_; rintro e w1 ⟨rfl, hb1⟩; have HB1 := Lib.hid (show Below w.heap.size w w1 from ⟨hb1.os, hb1.tape, hb1.output, hb1.size, hb1.block⟩); have k0 := (HX.out.below HB1.out).p0; clear hb1)
   |(go_at_call 192; refine (HF.out _ HB1.out).mono ?_; rintro e w2 ⟨rfl, hb2⟩; have HB2 := Lib.hid (show Below w.heap.size w w2 from HB1.out.trans (hb2.mono HB1.out.size)); clear hb2; have KR := Lib.hid (HX.out.below HB2.out); have y0 := KR.out.z 0; have y1 := KR.out.z 1; have y2 := KR.out.z 2; have y3 := KR.out.z 3; have y4 := KR.out.z 4; obtain ⟨e0, f0⟩ := Option.isSome_iff_exists.1 (KR.out.r 0 (by decide)); obtain ⟨e1, f1⟩ := Option.isSome_iff_exists.1 (KR.out.r 1 (by decide)); obtain ⟨e2, f2⟩ := Option.isSome_iff_exists.1 (KR.out.r 2 (by decide)); obtain ⟨e3, f3⟩ := Option.isSome_iff_exists.1 (KR.out.r 3 (by decide)); obtain ⟨e4, f4⟩ := Option.isSome_iff_exists.1 (KR.out.r 4 (by decide))))
  all_goals
   refine ⟨rfl, _, rfl, .tuple #[], ?_, rfl, rfl, w2, HB2.out, rfl⟩
   simp [results, Tryz.results152, go_sem]
 case inr =>
  refine callsD_of_wpS Tryz.func152 rfl fun c₀ cs hu => ?_
  apply wpS_seq
  apply wpS_region
  simp [wpOpsS, go_sem, recoverD, hu, Tryz.ntmps152, Exit.thenS]
  refine wpS_cond (t := true) (by simp [Act.eval, Array.replicate]) ?_
  simp only [if_true]
  refine wpS_of_wp ?_
  go_region_with (first
   |(go_at_call 46; refine (HW.out _).mono ?_; rintro e w1 ⟨rfl, hb1⟩; have HB1 := Lib.hid (show Below w.heap.size w w1 from ⟨hb1.os, hb1.tape, hb1.output, hb1.size, hb1.block⟩); have k0 := (HX.out.below HB1.out).p0; clear hb1)
   |(go_at_call 230; refine (HF.out _ HB1.out).mono ?_; rintro e w2 ⟨rfl, hb2⟩; have HB2 := Lib.hid (show Below w.heap.size w w2 from HB1.out.trans (hb2.mono HB1.out.size)); clear hb2; have KR := Lib.hid (HX.out.below HB2.out); have y0 := KR.out.z 0; have y1 := KR.out.z 1; have y2 := KR.out.z 2; have y3 := KR.out.z 3; have y4 := KR.out.z 4; obtain ⟨e0, f0⟩ := Option.isSome_iff_exists.1 (KR.out.r 0 (by decide)); obtain ⟨e1, f1⟩ := Option.isSome_iff_exists.1 (KR.out.r 1 (by decide)); obtain ⟨e2, f2⟩ := Option.isSome_iff_exists.1 (KR.out.r 2 (by decide)); obtain ⟨e3, f3⟩ := Option.isSome_iff_exists.1 (KR.out.r 3 (by decide)); obtain ⟨e4, f4⟩ := Option.isSome_iff_exists.1 (KR.out.r 4 (by decide))))
  all_goals
   refine ⟨rfl, _, rfl, .tuple #[], ?_, rfl, rfl, w2, HB2.out, rfl⟩
   simp [results, Tryz.results152, go_sem]
theorem bel3 (w : World) (o1 o2 o3 : Obj) : Below w.heap.size w (((w.alloc o1).alloc o2).alloc o3) := belS (belS (bx_box w o1) (bx_box _ o2)) (bx_box _ o3)
set_option maxRecDepth 100000 in
set_option maxHeartbeats 1600000 in
theorem deliver4_ok (mx : Int) (N b : Nat) (lv cv : Value) (k0 : List UInt8) (nms : List (List UInt8)) (T : TypeId) (V : Value) (x : CallD) (out : PartD × ReplyD) (p : PartD) (w : World) (hR : Ready mx N b lv cv k0 nms p w)
  (hA : ∀ W, Below w.heap.size w W → Calls Tryz.prog 153 #[.iface T V, vCall x] W fun e w' => Does4 N b lv out W e w') :
  Calls Tryz.prog 117 #[.iface T V, vCall x] w fun e w' => Does4 N b lv out w e w' := by
 have HN := Lib.hid hR.hN
 have hbl := hR.st.core.box.lt
 have HA := Lib.hid hA
 clear hR hA
 obtain ⟨xm, xk, xn, xt⟩ := x
 unfold vCall at HA ⊢
 simp only at HA
 have hmf : ∀ (fn : Fn) (first cap : Array Value) (w : World), (Instr.makeFunc fn first cap).run Tryz.prog w = .ok (.func fn first cap) w := fun _ _ _ _ => rfl
 have HB := Lib.hid (bel3 w (.cells #[.iface T V] 121) (.cells #[.string ⟨xm.toArray⟩, .string ⟨xk.toArray⟩, .int .i64 xn, .string ⟨xt.toArray⟩] 43) (.cells #[.int .i64 0, .int .i64 0, .string ⟨#[]⟩, .int .i64 0, .int .i64 0] 39))
 have L2 := Lib.hid (Loc.new ((w.alloc (.cells #[.iface T V] 121)).alloc (.cells #[.string ⟨xm.toArray⟩, .string ⟨xk.toArray⟩, .int .i64 xn, .string ⟨xt.toArray⟩] 43)) [.int .i64 0, .int .i64 0, .string ⟨#[]⟩, .int .i64 0, .int .i64 0] 39)
 rw [show ((w.alloc (.cells #[.iface T V] 121)).alloc (.cells #[.string ⟨xm.toArray⟩, .string ⟨xk.toArray⟩, .int .i64 xn, .string ⟨xt.toArray⟩] 43)).heap.size = w.heap.size + 1 + 1 by simp] at L2
 have n3b : w.heap.size + 1 + 1 ≠ b := by omega
 obtain ⟨q, t0, t1, t2, t3, t4⟩ := out
 go_enter_defers Tryz.func117, Tryz.ntmps117
 go_wp2_with fail
 refine (HA.out _ HB.out).mono ?_
 rintro e w1 ⟨rfl, cv1, hs1, hk1⟩
 replace L2 := Lib.hid (L2.out.stays hk1 n3b (by decide) (by decide))
 have HK := Lib.hid (KeptT.ahead HB.out HN.out hk1)
 have HS := Lib.hid hs1
 clear hs1 hk1 HA
 unfold vReply
 simp only
 have B_r := Lib.hid L2.out.bx
 have r0 := B_r.out.cell 0 (by simp)
 have r1 := B_r.out.cell 1 (by simp)
 have r2 := B_r.out.cell 2 (by simp)
 have r3 := B_r.out.cell 3 (by simp)
 have r4 := B_r.out.cell 4 (by simp)
 simp only [List.getElem_cons_zero, List.getElem_cons_succ] at r0 r1 r2 r3 r4
 have fr0 := B_r.out.froz 0 (by simp)
 have fr1 := B_r.out.froz 1 (by simp)
 have fr2 := B_r.out.froz 2 (by simp)
 have fr3 := B_r.out.froz 3 (by simp)
 have fr4 := B_r.out.froz 4 (by simp)
 have l_r := B_r.out.lt
 go_wp2_with fail
 refine leaves_cons (f := 152) (args := #[.pointer (some ⟨w.heap.size + 1, 0, none⟩), .pointer (some ⟨w.heap.size, 0, none⟩), .pointer (some ⟨w.heap.size + 1 + 1, 0, none⟩)]) (by simp) (by simp [go_sem]) ?_
 refine (catch_idle _ _ _ _).mono ?_
 rintro e u' w'' ⟨rfl, rfl, rfl⟩
 simp [Leaves, settle, results, Tryz.results117, go_sem, cell_set_at, cell_set_ne, r0, r1, r2, r3, r4]
 exact done5 ⟨t0, t1, t2, t3, t4⟩ HS.out HK.out L2.out n3b (by omega) HN.out _ _ _ _ _
set_option maxRecDepth 100000 in
set_option maxHeartbeats 1600000 in
theorem deliver4_fail (mx : Int) (N b : Nat) (lv cv : Value) (k0 : List UInt8) (nms : List (List UInt8)) (T : TypeId) (V : Value) (f : Int) (x : CallD) (p : PartD) (w : World) (hR : Ready mx N b lv cv k0 nms p w) (hF : FaceAt w T V f)
  (hA : ∀ W, Calls Tryz.prog 153 #[.iface T V, vCall x] W fun e w' => Panics W e w') :
  Calls Tryz.prog 117 #[.iface T V, vCall x] w fun e w' => Does4 N b lv (p, ⟨1, 0, [], wantF x.fMethod, f⟩) w e w' := by
 have HN := Lib.hid hR.hN
 have HS := Lib.hid hR.st
 have hbl := hR.st.core.box.lt
 have HA := Lib.hid hA
 have HF := Lib.hid hF
 clear hR hA hF
 obtain ⟨xm, xk, xn, xt⟩ := x
 unfold vCall at HA ⊢
 simp only at HA
 have hmf : ∀ (fn : Fn) (first cap : Array Value) (w : World), (Instr.makeFunc fn first cap).run Tryz.prog w = .ok (.func fn first cap) w := fun _ _ _ _ => rfl
 have HB := Lib.hid (bel3 w (.cells #[.iface T V] 121) (.cells #[.string ⟨xm.toArray⟩, .string ⟨xk.toArray⟩, .int .i64 xn, .string ⟨xt.toArray⟩] 43) (.cells #[.int .i64 0, .int .i64 0, .string ⟨#[]⟩, .int .i64 0, .int .i64 0] 39))
 have L2 := Lib.hid (Loc.new ((w.alloc (.cells #[.iface T V] 121)).alloc (.cells #[.string ⟨xm.toArray⟩, .string ⟨xk.toArray⟩, .int .i64 xn, .string ⟨xt.toArray⟩] 43)) [.int .i64 0, .int .i64 0, .string ⟨#[]⟩, .int .i64 0, .int .i64 0] 39)
 rw [show ((w.alloc (.cells #[.iface T V] 121)).alloc (.cells #[.string ⟨xm.toArray⟩, .string ⟨xk.toArray⟩, .int .i64 xn, .string ⟨xt.toArray⟩] 43)).heap.size = w.heap.size + 1 + 1 by simp] at L2
 have HBX := Lib.hid (show Boxes (w.heap.size + 1) w.heap.size (w.heap.size + 1 + 1) ⟨xm, xk, xn, xt⟩ (.iface T V) (((w.alloc (.cells #[.iface T V] 121)).alloc (.cells #[.string ⟨xm.toArray⟩, .string ⟨xk.toArray⟩, .int .i64 xn, .string ⟨xt.toArray⟩] 43)).alloc (.cells #[.int .i64 0, .int .i64 0, .string ⟨#[]⟩, .int .i64 0, .int .i64 0] 39)) from
  ⟨by simp [go_sem], by simp [go_sem], fun o ho => by rcases (show o = 0 ∨ o = 1 ∨ o = 2 ∨ o = 3 ∨ o = 4 by omega) with rfl | rfl | rfl | rfl | rfl <;> simp [go_sem], fun o => by simp [go_sem]⟩)
 have n3b : w.heap.size + 1 + 1 ≠ b := by omega
 go_enter_defers Tryz.func117, Tryz.ntmps117
 go_wp2_with fail
 refine (HA.out _).mono ?_
 rintro e w1 ⟨pv, rfl, hb⟩
 have HB1 := Lib.hid (belS HB.out hb)
 have HX1 := Lib.hid (HBX.out.below hb)
 replace L2 := Lib.hid (L2.out.below hb)
 clear hb HBX HA
 refine leaves_cons (f := 152) (args := #[.pointer (some ⟨w.heap.size + 1, 0, none⟩), .pointer (some ⟨w.heap.size, 0, none⟩), .pointer (some ⟨w.heap.size + 1 + 1, 0, none⟩)]) (by simp) (by simp [go_sem]) ?_
 refine (catch4 _ _ _ ⟨xm, xk, xn, xt⟩ T V f pv _ (HF.out.below HB1.out) HX1.out).mono ?_
 rintro e u' w'' ⟨rfl, rfl, w2, hb2, rfl⟩
 have HB2 := Lib.hid (belS HB1.out hb2)
 replace L2 := Lib.hid (L2.out.below hb2)
 have KR := Lib.hid (HX1.out.below hb2)
 have B_r := Lib.hid L2.out.bx
 have r0 := B_r.out.cell 0 (by simp)
 have r1 := B_r.out.cell 1 (by simp)
 have r2 := B_r.out.cell 2 (by simp)
 have r3 := B_r.out.cell 3 (by simp)
 have r4 := B_r.out.cell 4 (by simp)
 simp only [List.getElem_cons_zero, List.getElem_cons_succ] at r0 r1 r2 r3 r4
 generalize wantF xm = want at *
 clear hb2
 unfold put5
 simp [Leaves, settle, results, Tryz.results117, go_sem, cell_set_at, cell_set_ne, r0, r1, r2, r3, r4]
 exact done5 ⟨1, 0, [], want, f⟩ (HS.out.below HB2.out) (KeptT.of_below HB2.out HN.out) L2.out n3b (by omega) HN.out _ _ _ _ _
set_option maxRecDepth 100000 in
set_option maxHeartbeats 3200000 in
theorem acc_Start (mx : Int) (N b n : Nat) (lv : Value) (k0 : List UInt8) (nms : List (List UInt8)) (T : TypeId) (V : Value) (x : CallD) (hx : x.fMethod = [83, 116, 97, 114, 116]) (hn3 : n ≤ 3) (hta : Has 206 T) (HI : MthOk mx N b lv k0 nms n FsStart T V "Start" #[] x)
  (p : PartD) (cv : Value) (w : World) (hR : Ready mx N b lv cv k0 nms p w) :
  Calls Tryz.prog 153 #[.iface T V, vCall x] w fun e w' => Does4 N b lv (lyDo n p x) w e w' := by
 have hbl := hR.st.core.box.lt
 obtain ⟨IF, Ir, If, Im, In, Ic⟩ := HI
 have Im4 : ∀ (fuel : Nat) (w : World), (method (fuel + 4) T V _).run Tryz.prog w = .ok (IF, Ir) w := fun fuel w => by have h := Im (fuel + 3 - n) w; rwa [show fuel + 3 - n + n + 1 = fuel + 4 by omega] at h
 have In4 : ∀ (fuel : Nat) (w : World), (nilAhead (fuel + 4) T V _).run Tryz.prog w = .ok (some false) w := fun fuel w => by have h := In (fuel + 3 - n) w; rwa [show fuel + 3 - n + n + 1 = fuel + 4 by omega] at h
 have IC := Lib.hid (fun cv w h => Ic p cv w h)
 clear Im In Ic
 unfold Has at hta
 obtain ⟨xm, xk, xn, xt⟩ := x
 simp only at hx IC
 subst hx
 unfold vCall
 simp only
 have HB := Lib.hid (belS (bx_box w (.cells #[.string ⟨#[83, 116, 97, 114, 116]⟩, .string ⟨xk.toArray⟩, .int .i64 xn, .string ⟨xt.toArray⟩] 43)) (bx_box (w.alloc (.cells #[.string ⟨#[83, 116, 97, 114, 116]⟩, .string ⟨xk.toArray⟩, .int .i64 xn, .string ⟨xt.toArray⟩] 43)) (.cells #[.int .i64 0, .int .i64 0, .string ⟨#[]⟩, .int .i64 0, .int .i64 0] 39)))
 have L2 := Lib.hid (Loc.new (w.alloc (.cells #[.string ⟨#[83, 116, 97, 114, 116]⟩, .string ⟨xk.toArray⟩, .int .i64 xn, .string ⟨xt.toArray⟩] 43)) [.int .i64 0, .int .i64 0, .string ⟨#[]⟩, .int .i64 0, .int .i64 0] 39)
 rw [show (w.alloc (.cells #[.string ⟨#[83, 116, 97, 114, 116]⟩, .string ⟨xk.toArray⟩, .int .i64 xn, .string ⟨xt.toArray⟩] 43)).heap.size = w.heap.size + 1 by simp] at L2
 have n2b : w.heap.size + 1 ≠ b := by omega
 have HR := Lib.hid (hR.below HB.out)
 have HN := Lib.hid hR.hN
 clear hR
 generalize lyDo n p ⟨[83, 116, 97, 114, 116], xk, xn, xt⟩ = out at *
 obtain ⟨q, t0, t1, t2, t3, t4⟩ := out
 simp only [List.mem_cons, List.not_mem_nil, or_false] at If
 rcases If with rfl
 all_goals
  go_enter Tryz.func153, Tryz.ntmps153
  go_wp2_with fail
  generalize (w.alloc (.cells #[.string ⟨#[83, 116, 97, 114, 116]⟩, .string ⟨xk.toArray⟩, .int .i64 xn, .string ⟨xt.toArray⟩] 43)).alloc (.cells #[.int .i64 0, .int .i64 0, .string ⟨#[]⟩, .int .i64 0, .int .i64 0] 39) = w0 at *
  refine (IC.out _ _ HR.out).mono ?_
  rintro e w2 ⟨rfl, cv2, hs2, hk2⟩
  replace L2 := Lib.hid (L2.out.stays hk2 n2b (by decide) (by decide))
  have HK2 := Lib.hid (KeptT.ahead HB.out HN.out hk2)
  have HS := Lib.hid hs2
  clear hs2 hk2
  unfold vReply
  simp only
  have B_r := Lib.hid L2.out.bx
  have r0 := B_r.out.cell 0 (by simp)
  have r1 := B_r.out.cell 1 (by simp)
  have r2 := B_r.out.cell 2 (by simp)
  have r3 := B_r.out.cell 3 (by simp)
  have r4 := B_r.out.cell 4 (by simp)
  simp only [List.getElem_cons_zero, List.getElem_cons_succ] at r0 r1 r2 r3 r4
  have fr0 := B_r.out.froz 0 (by simp)
  have fr1 := B_r.out.froz 1 (by simp)
  have fr2 := B_r.out.froz 2 (by simp)
  have fr3 := B_r.out.froz 3 (by simp)
  have fr4 := B_r.out.froz 4 (by simp)
  have l_r := B_r.out.lt
  go_wp2_with fail
  refine bodyPost_ret (v := .agg #[.int .i64 t0, .int .i64 t1, .string ⟨t2.toArray⟩, .int .i64 t3, .int .i64 t4]) (by simp [results, Tryz.results153, go_sem, cell_set_at, cell_set_ne, r0, r1, r2, r3, r4]) rfl ?_
  exact done5 ⟨t0, t1, t2, t3, t4⟩ HS.out HK2.out L2.out n2b (by omega) HN.out _ _ _ _ _
set_option maxRecDepth 100000 in
set_option maxHeartbeats 3200000 in
theorem acc_Stop (mx : Int) (N b n : Nat) (lv : Value) (k0 : List UInt8) (nms : List (List UInt8)) (T : TypeId) (V : Value) (x : CallD) (hx : x.fMethod = [83, 116, 111, 112]) (hn3 : n ≤ 3) (hta : Has 206 T) (HI : MthOk mx N b lv k0 nms n FsStop T V "Stop" #[] x)
  (p : PartD) (cv : Value) (w : World) (hR : Ready mx N b lv cv k0 nms p w) :
  Calls Tryz.prog 153 #[.iface T V, vCall x] w fun e w' => Does4 N b lv (lyDo n p x) w e w' := by
 have hbl := hR.st.core.box.lt
 obtain ⟨IF, Ir, If, Im, In, Ic⟩ := HI
 have Im4 : ∀ (fuel : Nat) (w : World), (method (fuel + 4) T V _).run Tryz.prog w = .ok (IF, Ir) w := fun fuel w => by have h := Im (fuel + 3 - n) w; rwa [show fuel + 3 - n + n + 1 = fuel + 4 by omega] at h
 have In4 : ∀ (fuel : Nat) (w : World), (nilAhead (fuel + 4) T V _).run Tryz.prog w = .ok (some false) w := fun fuel w => by have h := In (fuel + 3 - n) w; rwa [show fuel + 3 - n + n + 1 = fuel + 4 by omega] at h
 have IC := Lib.hid (fun cv w h => Ic p cv w h)
 clear Im In Ic
 unfold Has at hta
 obtain ⟨xm, xk, xn, xt⟩ := x
 simp only at hx IC
 subst hx
 unfold vCall
 simp only
 have HB := Lib.hid (belS (bx_box w (.cells #[.string ⟨#[83, 116, 111, 112]⟩, .string ⟨xk.toArray⟩, .int .i64 xn, .string ⟨xt.toArray⟩] 43)) (bx_box (w.alloc (.cells #[.string ⟨#[83, 116, 111, 112]⟩, .string ⟨xk.toArray⟩, .int .i64 xn, .string ⟨xt.toArray⟩] 43)) (.cells #[.int .i64 0, .int .i64 0, .string ⟨#[]⟩, .int .i64 0, .int .i64 0] 39)))
 have L2 := Lib.hid (Loc.new (w.alloc (.cells #[.string ⟨#[83, 116, 111, 112]⟩, .string ⟨xk.toArray⟩, .int .i64 xn, .string ⟨xt.toArray⟩] 43)) [.int .i64 0, .int .i64 0, .string ⟨#[]⟩, .int .i64 0, .int .i64 0] 39)
 rw [show (w.alloc (.cells #[.string ⟨#[83, 116, 111, 112]⟩, .string ⟨xk.toArray⟩, .int .i64 xn, .string ⟨xt.toArray⟩] 43)).heap.size = w.heap.size + 1 by simp] at L2
 have n2b : w.heap.size + 1 ≠ b := by omega
 have HR := Lib.hid (hR.below HB.out)
 have HN := Lib.hid hR.hN
 clear hR
 generalize lyDo n p ⟨[83, 116, 111, 112], xk, xn, xt⟩ = out at *
 obtain ⟨q, t0, t1, t2, t3, t4⟩ := out
 simp only [List.mem_cons, List.not_mem_nil, or_false] at If
 rcases If with rfl
 all_goals
  go_enter Tryz.func153, Tryz.ntmps153
  go_wp2_with fail
  generalize (w.alloc (.cells #[.string ⟨#[83, 116, 111, 112]⟩, .string ⟨xk.toArray⟩, .int .i64 xn, .string ⟨xt.toArray⟩] 43)).alloc (.cells #[.int .i64 0, .int .i64 0, .string ⟨#[]⟩, .int .i64 0, .int .i64 0] 39) = w0 at *
  refine (IC.out _ _ HR.out).mono ?_
  rintro e w2 ⟨rfl, cv2, hs2, hk2⟩
  replace L2 := Lib.hid (L2.out.stays hk2 n2b (by decide) (by decide))
  have HK2 := Lib.hid (KeptT.ahead HB.out HN.out hk2)
  have HS := Lib.hid hs2
  clear hs2 hk2
  unfold vReply
  simp only
  have B_r := Lib.hid L2.out.bx
  have r0 := B_r.out.cell 0 (by simp)
  have r1 := B_r.out.cell 1 (by simp)
  have r2 := B_r.out.cell 2 (by simp)
  have r3 := B_r.out.cell 3 (by simp)
  have r4 := B_r.out.cell 4 (by simp)
  simp only [List.getElem_cons_zero, List.getElem_cons_succ] at r0 r1 r2 r3 r4
  have fr0 := B_r.out.froz 0 (by simp)
  have fr1 := B_r.out.froz 1 (by simp)
  have fr2 := B_r.out.froz 2 (by simp)
  have fr3 := B_r.out.froz 3 (by simp)
  have fr4 := B_r.out.froz 4 (by simp)
  have l_r := B_r.out.lt
  go_wp2_with fail
  refine bodyPost_ret (v := .agg #[.int .i64 t0, .int .i64 t1, .string ⟨t2.toArray⟩, .int .i64 t3, .int .i64 t4]) (by simp [results, Tryz.results153, go_sem, cell_set_at, cell_set_ne, r0, r1, r2, r3, r4]) rfl ?_
  exact done5 ⟨t0, t1, t2, t3, t4⟩ HS.out HK2.out L2.out n2b (by omega) HN.out _ _ _ _ _
set_option maxRecDepth 100000 in
set_option maxHeartbeats 3200000 in
theorem acc_Tell (mx : Int) (N b n : Nat) (lv : Value) (k0 : List UInt8) (nms : List (List UInt8)) (T : TypeId) (V : Value) (x : CallD) (hx : x.fMethod = [84, 101, 108, 108]) (hn3 : n ≤ 3) (hta : Has 222 T) (HI : MthOk mx N b lv k0 nms n FsTell T V "Tell" #[] x)
  (p : PartD) (cv : Value) (w : World) (hR : Ready mx N b lv cv k0 nms p w) :
  Calls Tryz.prog 153 #[.iface T V, vCall x] w fun e w' => Does4 N b lv (lyDo n p x) w e w' := by
 have hbl := hR.st.core.box.lt
 obtain ⟨IF, Ir, If, Im, In, Ic⟩ := HI
 have Im4 : ∀ (fuel : Nat) (w : World), (method (fuel + 4) T V _).run Tryz.prog w = .ok (IF, Ir) w := fun fuel w => by have h := Im (fuel + 3 - n) w; rwa [show fuel + 3 - n + n + 1 = fuel + 4 by omega] at h
 have In4 : ∀ (fuel : Nat) (w : World), (nilAhead (fuel + 4) T V _).run Tryz.prog w = .ok (some false) w := fun fuel w => by have h := In (fuel + 3 - n) w; rwa [show fuel + 3 - n + n + 1 = fuel + 4 by omega] at h
 have IC := Lib.hid (fun cv w h => Ic p cv w h)
 clear Im In Ic
 unfold Has at hta
 obtain ⟨xm, xk, xn, xt⟩ := x
 simp only at hx IC
 subst hx
 unfold vCall
 simp only
 have HB := Lib.hid (belS (bx_box w (.cells #[.string ⟨#[84, 101, 108, 108]⟩, .string ⟨xk.toArray⟩, .int .i64 xn, .string ⟨xt.toArray⟩] 43)) (bx_box (w.alloc (.cells #[.string ⟨#[84, 101, 108, 108]⟩, .string ⟨xk.toArray⟩, .int .i64 xn, .string ⟨xt.toArray⟩] 43)) (.cells #[.int .i64 0, .int .i64 0, .string ⟨#[]⟩, .int .i64 0, .int .i64 0] 39)))
 have L2 := Lib.hid (Loc.new (w.alloc (.cells #[.string ⟨#[84, 101, 108, 108]⟩, .string ⟨xk.toArray⟩, .int .i64 xn, .string ⟨xt.toArray⟩] 43)) [.int .i64 0, .int .i64 0, .string ⟨#[]⟩, .int .i64 0, .int .i64 0] 39)
 rw [show (w.alloc (.cells #[.string ⟨#[84, 101, 108, 108]⟩, .string ⟨xk.toArray⟩, .int .i64 xn, .string ⟨xt.toArray⟩] 43)).heap.size = w.heap.size + 1 by simp] at L2
 have n2b : w.heap.size + 1 ≠ b := by omega
 have HR := Lib.hid (hR.below HB.out)
 have HN := Lib.hid hR.hN
 clear hR
 generalize lyDo n p ⟨[84, 101, 108, 108], xk, xn, xt⟩ = out at *
 obtain ⟨q, t0, t1, t2, t3, t4⟩ := out
 simp only [List.mem_cons, List.not_mem_nil, or_false] at If
 rcases If with rfl | rfl | rfl
 all_goals
  go_enter Tryz.func153, Tryz.ntmps153
  go_wp2_with fail
  generalize (w.alloc (.cells #[.string ⟨#[84, 101, 108, 108]⟩, .string ⟨xk.toArray⟩, .int .i64 xn, .string ⟨xt.toArray⟩] 43)).alloc (.cells #[.int .i64 0, .int .i64 0, .string ⟨#[]⟩, .int .i64 0, .int .i64 0] 39) = w0 at *
  refine (IC.out _ _ HR.out).mono ?_
  rintro e w2 ⟨rfl, cv2, hs2, hk2⟩
  replace L2 := Lib.hid (L2.out.stays hk2 n2b (by decide) (by decide))
  have HK2 := Lib.hid (KeptT.ahead HB.out HN.out hk2)
  have HS := Lib.hid hs2
  clear hs2 hk2
  unfold vReply
  simp only
  have B_r := Lib.hid L2.out.bx
  have r0 := B_r.out.cell 0 (by simp)
  have r1 := B_r.out.cell 1 (by simp)
  have r2 := B_r.out.cell 2 (by simp)
  have r3 := B_r.out.cell 3 (by simp)
  have r4 := B_r.out.cell 4 (by simp)
  simp only [List.getElem_cons_zero, List.getElem_cons_succ] at r0 r1 r2 r3 r4
  have fr0 := B_r.out.froz 0 (by simp)
  have fr1 := B_r.out.froz 1 (by simp)
  have fr2 := B_r.out.froz 2 (by simp)
  have fr3 := B_r.out.froz 3 (by simp)
  have fr4 := B_r.out.froz 4 (by simp)
  have l_r := B_r.out.lt
  go_wp2_with fail
  refine bodyPost_ret (v := .agg #[.int .i64 t0, .int .i64 t1, .string ⟨t2.toArray⟩, .int .i64 t3, .int .i64 t4]) (by simp [results, Tryz.results153, go_sem, cell_set_at, cell_set_ne, r0, r1, r2, r3, r4]) rfl ?_
  exact done5 ⟨t0, t1, t2, t3, t4⟩ HS.out HK2.out L2.out n2b (by omega) HN.out _ _ _ _ _
set_option maxRecDepth 100000 in
set_option maxHeartbeats 3200000 in
theorem acc_Save (mx : Int) (N b n : Nat) (lv : Value) (k0 : List UInt8) (nms : List (List UInt8)) (T : TypeId) (V : Value) (x : CallD) (hx : x.fMethod = [83, 97, 118, 101]) (hn3 : n ≤ 3) (hta : Has 234 T) (HI : MthOk mx N b lv k0 nms n FsSave T V "Save" #[] x)
  (p : PartD) (cv : Value) (w : World) (hR : Ready mx N b lv cv k0 nms p w) :
  Calls Tryz.prog 153 #[.iface T V, vCall x] w fun e w' => Does4 N b lv (lyDo n p x) w e w' := by
 have hbl := hR.st.core.box.lt
 obtain ⟨IF, Ir, If, Im, In, Ic⟩ := HI
 have Im4 : ∀ (fuel : Nat) (w : World), (method (fuel + 4) T V _).run Tryz.prog w = .ok (IF, Ir) w := fun fuel w => by have h := Im (fuel + 3 - n) w; rwa [show fuel + 3 - n + n + 1 = fuel + 4 by omega] at h
 have In4 : ∀ (fuel : Nat) (w : World), (nilAhead (fuel + 4) T V _).run Tryz.prog w = .ok (some false) w := fun fuel w => by have h := In (fuel + 3 - n) w; rwa [show fuel + 3 - n + n + 1 = fuel + 4 by omega] at h
 have IC := Lib.hid (fun cv w h => Ic p cv w h)
 clear Im In Ic
 unfold Has at hta
 obtain ⟨xm, xk, xn, xt⟩ := x
 simp only at hx IC
 subst hx
 unfold vCall
 simp only
 have HB := Lib.hid (belS (bx_box w (.cells #[.string ⟨#[83, 97, 118, 101]⟩, .string ⟨xk.toArray⟩, .int .i64 xn, .string ⟨xt.toArray⟩] 43)) (bx_box (w.alloc (.cells #[.string ⟨#[83, 97, 118, 101]⟩, .string ⟨xk.toArray⟩, .int .i64 xn, .string ⟨xt.toArray⟩] 43)) (.cells #[.int .i64 0, .int .i64 0, .string ⟨#[]⟩, .int .i64 0, .int .i64 0] 39)))
 have L2 := Lib.hid (Loc.new (w.alloc (.cells #[.string ⟨#[83, 97, 118, 101]⟩, .string ⟨xk.toArray⟩, .int .i64 xn, .string ⟨xt.toArray⟩] 43)) [.int .i64 0, .int .i64 0, .string ⟨#[]⟩, .int .i64 0, .int .i64 0] 39)
 rw [show (w.alloc (.cells #[.string ⟨#[83, 97, 118, 101]⟩, .string ⟨xk.toArray⟩, .int .i64 xn, .string ⟨xt.toArray⟩] 43)).heap.size = w.heap.size + 1 by simp] at L2
 have n2b : w.heap.size + 1 ≠ b := by omega
 have HR := Lib.hid (hR.below HB.out)
 have HN := Lib.hid hR.hN
 clear hR
 generalize lyDo n p ⟨[83, 97, 118, 101], xk, xn, xt⟩ = out at *
 obtain ⟨q, t0, t1, t2, t3, t4⟩ := out
 simp only [List.mem_cons, List.not_mem_nil, or_false] at If
 rcases If with rfl
 all_goals
  go_enter Tryz.func153, Tryz.ntmps153
  go_wp2_with fail
  generalize (w.alloc (.cells #[.string ⟨#[83, 97, 118, 101]⟩, .string ⟨xk.toArray⟩, .int .i64 xn, .string ⟨xt.toArray⟩] 43)).alloc (.cells #[.int .i64 0, .int .i64 0, .string ⟨#[]⟩, .int .i64 0, .int .i64 0] 39) = w0 at *
  refine (IC.out _ _ HR.out).mono ?_
  rintro e w2 ⟨rfl, cv2, hs2, hk2⟩
  replace L2 := Lib.hid (L2.out.stays hk2 n2b (by decide) (by decide))
  have HK2 := Lib.hid (KeptT.ahead HB.out HN.out hk2)
  have HS := Lib.hid hs2
  clear hs2 hk2
  unfold vReply
  simp only
  have B_r := Lib.hid L2.out.bx
  have r0 := B_r.out.cell 0 (by simp)
  have r1 := B_r.out.cell 1 (by simp)
  have r2 := B_r.out.cell 2 (by simp)
  have r3 := B_r.out.cell 3 (by simp)
  have r4 := B_r.out.cell 4 (by simp)
  simp only [List.getElem_cons_zero, List.getElem_cons_succ] at r0 r1 r2 r3 r4
  have fr0 := B_r.out.froz 0 (by simp)
  have fr1 := B_r.out.froz 1 (by simp)
  have fr2 := B_r.out.froz 2 (by simp)
  have fr3 := B_r.out.froz 3 (by simp)
  have fr4 := B_r.out.froz 4 (by simp)
  have l_r := B_r.out.lt
  go_wp2_with fail
  refine bodyPost_ret (v := .agg #[.int .i64 t0, .int .i64 t1, .string ⟨t2.toArray⟩, .int .i64 t3, .int .i64 t4]) (by simp [results, Tryz.results153, go_sem, cell_set_at, cell_set_ne, r0, r1, r2, r3, r4]) rfl ?_
  exact done5 ⟨t0, t1, t2, t3, t4⟩ HS.out HK2.out L2.out n2b (by omega) HN.out _ _ _ _ _
set_option maxRecDepth 100000 in
set_option maxHeartbeats 3200000 in
theorem acc_Heal (mx : Int) (N b n : Nat) (lv : Value) (k0 : List UInt8) (nms : List (List UInt8)) (T : TypeId) (V : Value) (x : CallD) (hx : x.fMethod = [72, 101, 97, 108]) (hn3 : n ≤ 3) (hta : Has 236 T) (HI : MthOk mx N b lv k0 nms n FsHeal T V "Heal" #[] x)
  (p : PartD) (cv : Value) (w : World) (hR : Ready mx N b lv cv k0 nms p w) :
  Calls Tryz.prog 153 #[.iface T V, vCall x] w fun e w' => Does4 N b lv (lyDo n p x) w e w' := by
 have hbl := hR.st.core.box.lt
 obtain ⟨IF, Ir, If, Im, In, Ic⟩ := HI
 have Im4 : ∀ (fuel : Nat) (w : World), (method (fuel + 4) T V _).run Tryz.prog w = .ok (IF, Ir) w := fun fuel w => by have h := Im (fuel + 3 - n) w; rwa [show fuel + 3 - n + n + 1 = fuel + 4 by omega] at h
 have In4 : ∀ (fuel : Nat) (w : World), (nilAhead (fuel + 4) T V _).run Tryz.prog w = .ok (some false) w := fun fuel w => by have h := In (fuel + 3 - n) w; rwa [show fuel + 3 - n + n + 1 = fuel + 4 by omega] at h
 have IC := Lib.hid (fun cv w h => Ic p cv w h)
 clear Im In Ic
 unfold Has at hta
 obtain ⟨xm, xk, xn, xt⟩ := x
 simp only at hx IC
 subst hx
 unfold vCall
 simp only
 have HB := Lib.hid (belS (bx_box w (.cells #[.string ⟨#[72, 101, 97, 108]⟩, .string ⟨xk.toArray⟩, .int .i64 xn, .string ⟨xt.toArray⟩] 43)) (bx_box (w.alloc (.cells #[.string ⟨#[72, 101, 97, 108]⟩, .string ⟨xk.toArray⟩, .int .i64 xn, .string ⟨xt.toArray⟩] 43)) (.cells #[.int .i64 0, .int .i64 0, .string ⟨#[]⟩, .int .i64 0, .int .i64 0] 39)))
 have L2 := Lib.hid (Loc.new (w.alloc (.cells #[.string ⟨#[72, 101, 97, 108]⟩, .string ⟨xk.toArray⟩, .int .i64 xn, .string ⟨xt.toArray⟩] 43)) [.int .i64 0, .int .i64 0, .string ⟨#[]⟩, .int .i64 0, .int .i64 0] 39)
 rw [show (w.alloc (.cells #[.string ⟨#[72, 101, 97, 108]⟩, .string ⟨xk.toArray⟩, .int .i64 xn, .string ⟨xt.toArray⟩] 43)).heap.size = w.heap.size + 1 by simp] at L2
 have n2b : w.heap.size + 1 ≠ b := by omega
 have HR := Lib.hid (hR.below HB.out)
 have HN := Lib.hid hR.hN
 clear hR
 generalize lyDo n p ⟨[72, 101, 97, 108], xk, xn, xt⟩ = out at *
 obtain ⟨q, t0, t1, t2, t3, t4⟩ := out
 simp only [List.mem_cons, List.not_mem_nil, or_false] at If
 rcases If with rfl | rfl
 all_goals
  go_enter Tryz.func153, Tryz.ntmps153
  go_wp2_with fail
  generalize (w.alloc (.cells #[.string ⟨#[72, 101, 97, 108]⟩, .string ⟨xk.toArray⟩, .int .i64 xn, .string ⟨xt.toArray⟩] 43)).alloc (.cells #[.int .i64 0, .int .i64 0, .string ⟨#[]⟩, .int .i64 0, .int .i64 0] 39) = w0 at *
  refine (IC.out _ _ HR.out).mono ?_
  rintro e w2 ⟨rfl, cv2, hs2, hk2⟩
  replace L2 := Lib.hid (L2.out.stays hk2 n2b (by decide) (by decide))
  have HK2 := Lib.hid (KeptT.ahead HB.out HN.out hk2)
  have HS := Lib.hid hs2
  clear hs2 hk2
  unfold vReply
  simp only
  have B_r := Lib.hid L2.out.bx
  have r0 := B_r.out.cell 0 (by simp)
  have r1 := B_r.out.cell 1 (by simp)
  have r2 := B_r.out.cell 2 (by simp)
  have r3 := B_r.out.cell 3 (by simp)
  have r4 := B_r.out.cell 4 (by simp)
  simp only [List.getElem_cons_zero, List.getElem_cons_succ] at r0 r1 r2 r3 r4
  have fr0 := B_r.out.froz 0 (by simp)
  have fr1 := B_r.out.froz 1 (by simp)
  have fr2 := B_r.out.froz 2 (by simp)
  have fr3 := B_r.out.froz 3 (by simp)
  have fr4 := B_r.out.froz 4 (by simp)
  have l_r := B_r.out.lt
  go_wp2_with fail
  refine bodyPost_ret (v := .agg #[.int .i64 t0, .int .i64 t1, .string ⟨t2.toArray⟩, .int .i64 t3, .int .i64 t4]) (by simp [results, Tryz.results153, go_sem, cell_set_at, cell_set_ne, r0, r1, r2, r3, r4]) rfl ?_
  exact done5 ⟨t0, t1, t2, t3, t4⟩ HS.out HK2.out L2.out n2b (by omega) HN.out _ _ _ _ _
set_option maxRecDepth 100000 in
set_option maxHeartbeats 3200000 in
theorem acc_Get (mx : Int) (N b n : Nat) (lv : Value) (k0 : List UInt8) (nms : List (List UInt8)) (T : TypeId) (V : Value) (x : CallD) (hx : x.fMethod = [71, 101, 116]) (hn3 : n ≤ 3) (hta : Has 210 T) (HI : MthOk mx N b lv k0 nms n FsGet T V "Get" #[.string ⟨x.fKey.toArray⟩] x)
  (p : PartD) (cv : Value) (w : World) (hR : Ready mx N b lv cv k0 nms p w) :
  Calls Tryz.prog 153 #[.iface T V, vCall x] w fun e w' => Does4 N b lv (lyDo n p x) w e w' := by
 have hbl := hR.st.core.box.lt
 obtain ⟨IF, Ir, If, Im, In, Ic⟩ := HI
 have Im4 : ∀ (fuel : Nat) (w : World), (method (fuel + 4) T V _).run Tryz.prog w = .ok (IF, Ir) w := fun fuel w => by have h := Im (fuel + 3 - n) w; rwa [show fuel + 3 - n + n + 1 = fuel + 4 by omega] at h
 have In4 : ∀ (fuel : Nat) (w : World), (nilAhead (fuel + 4) T V _).run Tryz.prog w = .ok (some false) w := fun fuel w => by have h := In (fuel + 3 - n) w; rwa [show fuel + 3 - n + n + 1 = fuel + 4 by omega] at h
 have IC := Lib.hid (fun cv w h => Ic p cv w h)
 clear Im In Ic
 unfold Has at hta
 obtain ⟨xm, xk, xn, xt⟩ := x
 simp only at hx IC
 subst hx
 unfold vCall
 simp only
 have HB := Lib.hid (belS (bx_box w (.cells #[.string ⟨#[71, 101, 116]⟩, .string ⟨xk.toArray⟩, .int .i64 xn, .string ⟨xt.toArray⟩] 43)) (bx_box (w.alloc (.cells #[.string ⟨#[71, 101, 116]⟩, .string ⟨xk.toArray⟩, .int .i64 xn, .string ⟨xt.toArray⟩] 43)) (.cells #[.int .i64 0, .int .i64 0, .string ⟨#[]⟩, .int .i64 0, .int .i64 0] 39)))
 have L2 := Lib.hid (Loc.new (w.alloc (.cells #[.string ⟨#[71, 101, 116]⟩, .string ⟨xk.toArray⟩, .int .i64 xn, .string ⟨xt.toArray⟩] 43)) [.int .i64 0, .int .i64 0, .string ⟨#[]⟩, .int .i64 0, .int .i64 0] 39)
 rw [show (w.alloc (.cells #[.string ⟨#[71, 101, 116]⟩, .string ⟨xk.toArray⟩, .int .i64 xn, .string ⟨xt.toArray⟩] 43)).heap.size = w.heap.size + 1 by simp] at L2
 have n2b : w.heap.size + 1 ≠ b := by omega
 have HR := Lib.hid (hR.below HB.out)
 have HN := Lib.hid hR.hN
 clear hR
 generalize lyDo n p ⟨[71, 101, 116], xk, xn, xt⟩ = out at *
 obtain ⟨q, t0, t1, t2, t3, t4⟩ := out
 simp only [List.mem_cons, List.not_mem_nil, or_false] at If
 rcases If with rfl | rfl | rfl
 all_goals
  go_enter Tryz.func153, Tryz.ntmps153
  go_wp2_with fail
  have hW := Lib.hid (show ∀ o, ((w.alloc (.cells #[.string ⟨#[71, 101, 116]⟩, .string ⟨xk.toArray⟩, .int .i64 xn, .string ⟨xt.toArray⟩] 43)).alloc (.cells #[.int .i64 0, .int .i64 0, .string ⟨#[]⟩, .int .i64 0, .int .i64 0] 39)).cell? ⟨w.heap.size, o, none⟩ = (#[.string ⟨#[71, 101, 116]⟩, .string ⟨xk.toArray⟩, .int .i64 xn, .string ⟨xt.toArray⟩] : Array Value)[o]? from fun o => by simp [go_sem])
  generalize (w.alloc (.cells #[.string ⟨#[71, 101, 116]⟩, .string ⟨xk.toArray⟩, .int .i64 xn, .string ⟨xt.toArray⟩] 43)).alloc (.cells #[.int .i64 0, .int .i64 0, .string ⟨#[]⟩, .int .i64 0, .int .i64 0] 39) = W at *
  have q1 := hW.out 1
  have q2 := hW.out 2
  have q3 := hW.out 3
  simp at q1 q2 q3
  clear hW
  have HBD := Lib.hid (bel_dr HB.out)
  replace HR := Lib.hid (HR.out.below (bel_dr (Below.refl W.heap.size W)))
  replace L2 := Lib.hid (L2.out.below (bel_dr (Below.refl W.heap.size W)))
  go_still_tail 4, (by kernel_rfl)
  change wpList _ _ _ _ _ W.drew
  go_wp2_with fail
  refine (IC.out _ _ HR.out).mono ?_
  rintro e w2 ⟨rfl, cv2, hs2, hk2⟩
  replace L2 := Lib.hid (L2.out.stays hk2 n2b (by decide) (by decide))
  have HK2 := Lib.hid (KeptT.ahead HBD.out HN.out hk2)
  have HS := Lib.hid hs2
  clear hs2 hk2
  unfold vReply
  simp only
  have B_r := Lib.hid L2.out.bx
  have r0 := B_r.out.cell 0 (by simp)
  have r1 := B_r.out.cell 1 (by simp)
  have r2 := B_r.out.cell 2 (by simp)
  have r3 := B_r.out.cell 3 (by simp)
  have r4 := B_r.out.cell 4 (by simp)
  simp only [List.getElem_cons_zero, List.getElem_cons_succ] at r0 r1 r2 r3 r4
  have fr0 := B_r.out.froz 0 (by simp)
  have fr1 := B_r.out.froz 1 (by simp)
  have fr2 := B_r.out.froz 2 (by simp)
  have fr3 := B_r.out.froz 3 (by simp)
  have fr4 := B_r.out.froz 4 (by simp)
  have l_r := B_r.out.lt
  go_wp2_with fail
  refine bodyPost_ret (v := .agg #[.int .i64 t0, .int .i64 t1, .string ⟨t2.toArray⟩, .int .i64 t3, .int .i64 t4]) (by simp [results, Tryz.results153, go_sem, cell_set_at, cell_set_ne, r0, r1, r2, r3, r4]) rfl ?_
  exact done5 ⟨t0, t1, t2, t3, t4⟩ HS.out HK2.out L2.out n2b (by omega) HN.out _ _ _ _ _
set_option maxRecDepth 100000 in
set_option maxHeartbeats 3200000 in
theorem acc_Put (mx : Int) (N b n : Nat) (lv : Value) (k0 : List UInt8) (nms : List (List UInt8)) (T : TypeId) (V : Value) (x : CallD) (hx : x.fMethod = [80, 117, 116]) (hn3 : n ≤ 3) (hta : Has 210 T) (HI : MthOk mx N b lv k0 nms n FsPut T V "Put" #[.string ⟨x.fKey.toArray⟩, .int .i64 x.fValue] x)
  (p : PartD) (cv : Value) (w : World) (hR : Ready mx N b lv cv k0 nms p w) :
  Calls Tryz.prog 153 #[.iface T V, vCall x] w fun e w' => Does4 N b lv (lyDo n p x) w e w' := by
 have hbl := hR.st.core.box.lt
 obtain ⟨IF, Ir, If, Im, In, Ic⟩ := HI
 have Im4 : ∀ (fuel : Nat) (w : World), (method (fuel + 4) T V _).run Tryz.prog w = .ok (IF, Ir) w := fun fuel w => by have h := Im (fuel + 3 - n) w; rwa [show fuel + 3 - n + n + 1 = fuel + 4 by omega] at h
 have In4 : ∀ (fuel : Nat) (w : World), (nilAhead (fuel + 4) T V _).run Tryz.prog w = .ok (some false) w := fun fuel w => by have h := In (fuel + 3 - n) w; rwa [show fuel + 3 - n + n + 1 = fuel + 4 by omega] at h
 have IC := Lib.hid (fun cv w h => Ic p cv w h)
 clear Im In Ic
 unfold Has at hta
 obtain ⟨xm, xk, xn, xt⟩ := x
 simp only at hx IC
 subst hx
 unfold vCall
 simp only
 have HB := Lib.hid (belS (bx_box w (.cells #[.string ⟨#[80, 117, 116]⟩, .string ⟨xk.toArray⟩, .int .i64 xn, .string ⟨xt.toArray⟩] 43)) (bx_box (w.alloc (.cells #[.string ⟨#[80, 117, 116]⟩, .string ⟨xk.toArray⟩, .int .i64 xn, .string ⟨xt.toArray⟩] 43)) (.cells #[.int .i64 0, .int .i64 0, .string ⟨#[]⟩, .int .i64 0, .int .i64 0] 39)))
 have L2 := Lib.hid (Loc.new (w.alloc (.cells #[.string ⟨#[80, 117, 116]⟩, .string ⟨xk.toArray⟩, .int .i64 xn, .string ⟨xt.toArray⟩] 43)) [.int .i64 0, .int .i64 0, .string ⟨#[]⟩, .int .i64 0, .int .i64 0] 39)
 rw [show (w.alloc (.cells #[.string ⟨#[80, 117, 116]⟩, .string ⟨xk.toArray⟩, .int .i64 xn, .string ⟨xt.toArray⟩] 43)).heap.size = w.heap.size + 1 by simp] at L2
 have n2b : w.heap.size + 1 ≠ b := by omega
 have HR := Lib.hid (hR.below HB.out)
 have HN := Lib.hid hR.hN
 clear hR
 generalize lyDo n p ⟨[80, 117, 116], xk, xn, xt⟩ = out at *
 obtain ⟨q, t0, t1, t2, t3, t4⟩ := out
 simp only [List.mem_cons, List.not_mem_nil, or_false] at If
 rcases If with rfl | rfl | rfl | rfl
 all_goals
  go_enter Tryz.func153, Tryz.ntmps153
  go_wp2_with fail
  have hW := Lib.hid (show ∀ o, ((w.alloc (.cells #[.string ⟨#[80, 117, 116]⟩, .string ⟨xk.toArray⟩, .int .i64 xn, .string ⟨xt.toArray⟩] 43)).alloc (.cells #[.int .i64 0, .int .i64 0, .string ⟨#[]⟩, .int .i64 0, .int .i64 0] 39)).cell? ⟨w.heap.size, o, none⟩ = (#[.string ⟨#[80, 117, 116]⟩, .string ⟨xk.toArray⟩, .int .i64 xn, .string ⟨xt.toArray⟩] : Array Value)[o]? from fun o => by simp [go_sem])
  generalize (w.alloc (.cells #[.string ⟨#[80, 117, 116]⟩, .string ⟨xk.toArray⟩, .int .i64 xn, .string ⟨xt.toArray⟩] 43)).alloc (.cells #[.int .i64 0, .int .i64 0, .string ⟨#[]⟩, .int .i64 0, .int .i64 0] 39) = W at *
  have q1 := hW.out 1
  have q2 := hW.out 2
  have q3 := hW.out 3
  simp at q1 q2 q3
  clear hW
  have HBD := Lib.hid (bel_dr HB.out)
  replace HR := Lib.hid (HR.out.below (bel_dr (Below.refl W.heap.size W)))
  replace L2 := Lib.hid (L2.out.below (bel_dr (Below.refl W.heap.size W)))
  go_still_tail 6, (by kernel_rfl)
  change wpList _ _ _ _ _ W.drew
  go_wp2_with fail
  refine (IC.out _ _ HR.out).mono ?_
  rintro e w2 ⟨rfl, cv2, hs2, hk2⟩
  replace L2 := Lib.hid (L2.out.stays hk2 n2b (by decide) (by decide))
  have HK2 := Lib.hid (KeptT.ahead HBD.out HN.out hk2)
  have HS := Lib.hid hs2
  clear hs2 hk2
  unfold vReply
  simp only
  have B_r := Lib.hid L2.out.bx
  have r0 := B_r.out.cell 0 (by simp)
  have r1 := B_r.out.cell 1 (by simp)
  have r2 := B_r.out.cell 2 (by simp)
  have r3 := B_r.out.cell 3 (by simp)
  have r4 := B_r.out.cell 4 (by simp)
  simp only [List.getElem_cons_zero, List.getElem_cons_succ] at r0 r1 r2 r3 r4
  have fr0 := B_r.out.froz 0 (by simp)
  have fr1 := B_r.out.froz 1 (by simp)
  have fr2 := B_r.out.froz 2 (by simp)
  have fr3 := B_r.out.froz 3 (by simp)
  have fr4 := B_r.out.froz 4 (by simp)
  have l_r := B_r.out.lt
  go_wp2_with fail
  refine bodyPost_ret (v := .agg #[.int .i64 t0, .int .i64 t1, .string ⟨t2.toArray⟩, .int .i64 t3, .int .i64 t4]) (by simp [results, Tryz.results153, go_sem, cell_set_at, cell_set_ne, r0, r1, r2, r3, r4]) rfl ?_
  exact done5 ⟨t0, t1, t2, t3, t4⟩ HS.out HK2.out L2.out n2b (by omega) HN.out _ _ _ _ _
set_option maxRecDepth 100000 in
set_option maxHeartbeats 3200000 in
theorem acc_Hear (mx : Int) (N b n : Nat) (lv : Value) (k0 : List UInt8) (nms : List (List UInt8)) (T : TypeId) (V : Value) (x : CallD) (hx : x.fMethod = [72, 101, 97, 114]) (hn3 : n ≤ 3) (hta : Has 231 T) (HI : MthOk mx N b lv k0 nms n FsHear T V "Hear" #[.int .i64 x.fValue] x)
  (p : PartD) (cv : Value) (w : World) (hR : Ready mx N b lv cv k0 nms p w) :
  Calls Tryz.prog 153 #[.iface T V, vCall x] w fun e w' => Does4 N b lv (lyDo n p x) w e w' := by
 have hbl := hR.st.core.box.lt
 obtain ⟨IF, Ir, If, Im, In, Ic⟩ := HI
 have Im4 : ∀ (fuel : Nat) (w : World), (method (fuel + 4) T V _).run Tryz.prog w = .ok (IF, Ir) w := fun fuel w => by have h := Im (fuel + 3 - n) w; rwa [show fuel + 3 - n + n + 1 = fuel + 4 by omega] at h
 have In4 : ∀ (fuel : Nat) (w : World), (nilAhead (fuel + 4) T V _).run Tryz.prog w = .ok (some false) w := fun fuel w => by have h := In (fuel + 3 - n) w; rwa [show fuel + 3 - n + n + 1 = fuel + 4 by omega] at h
 have IC := Lib.hid (fun cv w h => Ic p cv w h)
 clear Im In Ic
 unfold Has at hta
 obtain ⟨xm, xk, xn, xt⟩ := x
 simp only at hx IC
 subst hx
 unfold vCall
 simp only
 have HB := Lib.hid (belS (bx_box w (.cells #[.string ⟨#[72, 101, 97, 114]⟩, .string ⟨xk.toArray⟩, .int .i64 xn, .string ⟨xt.toArray⟩] 43)) (bx_box (w.alloc (.cells #[.string ⟨#[72, 101, 97, 114]⟩, .string ⟨xk.toArray⟩, .int .i64 xn, .string ⟨xt.toArray⟩] 43)) (.cells #[.int .i64 0, .int .i64 0, .string ⟨#[]⟩, .int .i64 0, .int .i64 0] 39)))
 have L2 := Lib.hid (Loc.new (w.alloc (.cells #[.string ⟨#[72, 101, 97, 114]⟩, .string ⟨xk.toArray⟩, .int .i64 xn, .string ⟨xt.toArray⟩] 43)) [.int .i64 0, .int .i64 0, .string ⟨#[]⟩, .int .i64 0, .int .i64 0] 39)
 rw [show (w.alloc (.cells #[.string ⟨#[72, 101, 97, 114]⟩, .string ⟨xk.toArray⟩, .int .i64 xn, .string ⟨xt.toArray⟩] 43)).heap.size = w.heap.size + 1 by simp] at L2
 have n2b : w.heap.size + 1 ≠ b := by omega
 have HR := Lib.hid (hR.below HB.out)
 have HN := Lib.hid hR.hN
 clear hR
 generalize lyDo n p ⟨[72, 101, 97, 114], xk, xn, xt⟩ = out at *
 obtain ⟨q, t0, t1, t2, t3, t4⟩ := out
 simp only [List.mem_cons, List.not_mem_nil, or_false] at If
 rcases If with rfl | rfl
 all_goals
  go_enter Tryz.func153, Tryz.ntmps153
  go_wp2_with fail
  have hW := Lib.hid (show ∀ o, ((w.alloc (.cells #[.string ⟨#[72, 101, 97, 114]⟩, .string ⟨xk.toArray⟩, .int .i64 xn, .string ⟨xt.toArray⟩] 43)).alloc (.cells #[.int .i64 0, .int .i64 0, .string ⟨#[]⟩, .int .i64 0, .int .i64 0] 39)).cell? ⟨w.heap.size, o, none⟩ = (#[.string ⟨#[72, 101, 97, 114]⟩, .string ⟨xk.toArray⟩, .int .i64 xn, .string ⟨xt.toArray⟩] : Array Value)[o]? from fun o => by simp [go_sem])
  generalize (w.alloc (.cells #[.string ⟨#[72, 101, 97, 114]⟩, .string ⟨xk.toArray⟩, .int .i64 xn, .string ⟨xt.toArray⟩] 43)).alloc (.cells #[.int .i64 0, .int .i64 0, .string ⟨#[]⟩, .int .i64 0, .int .i64 0] 39) = W at *
  have q1 := hW.out 1
  have q2 := hW.out 2
  have q3 := hW.out 3
  simp at q1 q2 q3
  clear hW
  have HBD := Lib.hid (bel_dr HB.out)
  replace HR := Lib.hid (HR.out.below (bel_dr (Below.refl W.heap.size W)))
  replace L2 := Lib.hid (L2.out.below (bel_dr (Below.refl W.heap.size W)))
  go_still_tail 4, (by kernel_rfl)
  change wpList _ _ _ _ _ W.drew
  go_wp2_with fail
  refine (IC.out _ _ HR.out).mono ?_
  rintro e w2 ⟨rfl, cv2, hs2, hk2⟩
  replace L2 := Lib.hid (L2.out.stays hk2 n2b (by decide) (by decide))
  have HK2 := Lib.hid (KeptT.ahead HBD.out HN.out hk2)
  have HS := Lib.hid hs2
  clear hs2 hk2
  unfold vReply
  simp only
  have B_r := Lib.hid L2.out.bx
  have r0 := B_r.out.cell 0 (by simp)
  have r1 := B_r.out.cell 1 (by simp)
  have r2 := B_r.out.cell 2 (by simp)
  have r3 := B_r.out.cell 3 (by simp)
  have r4 := B_r.out.cell 4 (by simp)
  simp only [List.getElem_cons_zero, List.getElem_cons_succ] at r0 r1 r2 r3 r4
  have fr0 := B_r.out.froz 0 (by simp)
  have fr1 := B_r.out.froz 1 (by simp)
  have fr2 := B_r.out.froz 2 (by simp)
  have fr3 := B_r.out.froz 3 (by simp)
  have fr4 := B_r.out.froz 4 (by simp)
  have l_r := B_r.out.lt
  go_wp2_with fail
  refine bodyPost_ret (v := .agg #[.int .i64 t0, .int .i64 t1, .string ⟨t2.toArray⟩, .int .i64 t3, .int .i64 t4]) (by simp [results, Tryz.results153, go_sem, cell_set_at, cell_set_ne, r0, r1, r2, r3, r4]) rfl ?_
  exact done5 ⟨t0, t1, t2, t3, t4⟩ HS.out HK2.out L2.out n2b (by omega) HN.out _ _ _ _ _
set_option maxRecDepth 100000 in
set_option maxHeartbeats 3200000 in
theorem acc_Load (mx : Int) (N b n : Nat) (lv : Value) (k0 : List UInt8) (nms : List (List UInt8)) (T : TypeId) (V : Value) (x : CallD) (hx : x.fMethod = [76, 111, 97, 100]) (hn3 : n ≤ 3) (hta : Has 234 T) (HI : MthOk mx N b lv k0 nms n FsLoad T V "Load" #[.string ⟨x.fText.toArray⟩] x)
  (p : PartD) (cv : Value) (w : World) (hR : Ready mx N b lv cv k0 nms p w) :
  Calls Tryz.prog 153 #[.iface T V, vCall x] w fun e w' => Does4 N b lv (lyDo n p x) w e w' := by
 have hbl := hR.st.core.box.lt
 obtain ⟨IF, Ir, If, Im, In, Ic⟩ := HI
 have Im4 : ∀ (fuel : Nat) (w : World), (method (fuel + 4) T V _).run Tryz.prog w = .ok (IF, Ir) w := fun fuel w => by have h := Im (fuel + 3 - n) w; rwa [show fuel + 3 - n + n + 1 = fuel + 4 by omega] at h
 have In4 : ∀ (fuel : Nat) (w : World), (nilAhead (fuel + 4) T V _).run Tryz.prog w = .ok (some false) w := fun fuel w => by have h := In (fuel + 3 - n) w; rwa [show fuel + 3 - n + n + 1 = fuel + 4 by omega] at h
 have IC := Lib.hid (fun cv w h => Ic p cv w h)
 clear Im In Ic
 unfold Has at hta
 obtain ⟨xm, xk, xn, xt⟩ := x
 simp only at hx IC
 subst hx
 unfold vCall
 simp only
 have HB := Lib.hid (belS (bx_box w (.cells #[.string ⟨#[76, 111, 97, 100]⟩, .string ⟨xk.toArray⟩, .int .i64 xn, .string ⟨xt.toArray⟩] 43)) (bx_box (w.alloc (.cells #[.string ⟨#[76, 111, 97, 100]⟩, .string ⟨xk.toArray⟩, .int .i64 xn, .string ⟨xt.toArray⟩] 43)) (.cells #[.int .i64 0, .int .i64 0, .string ⟨#[]⟩, .int .i64 0, .int .i64 0] 39)))
 have L2 := Lib.hid (Loc.new (w.alloc (.cells #[.string ⟨#[76, 111, 97, 100]⟩, .string ⟨xk.toArray⟩, .int .i64 xn, .string ⟨xt.toArray⟩] 43)) [.int .i64 0, .int .i64 0, .string ⟨#[]⟩, .int .i64 0, .int .i64 0] 39)
 rw [show (w.alloc (.cells #[.string ⟨#[76, 111, 97, 100]⟩, .string ⟨xk.toArray⟩, .int .i64 xn, .string ⟨xt.toArray⟩] 43)).heap.size = w.heap.size + 1 by simp] at L2
 have n2b : w.heap.size + 1 ≠ b := by omega
 have HR := Lib.hid (hR.below HB.out)
 have HN := Lib.hid hR.hN
 clear hR
 generalize lyDo n p ⟨[76, 111, 97, 100], xk, xn, xt⟩ = out at *
 obtain ⟨q, t0, t1, t2, t3, t4⟩ := out
 simp only [List.mem_cons, List.not_mem_nil, or_false] at If
 rcases If with rfl
 all_goals
  go_enter Tryz.func153, Tryz.ntmps153
  go_wp2_with fail
  have hW := Lib.hid (show ∀ o, ((w.alloc (.cells #[.string ⟨#[76, 111, 97, 100]⟩, .string ⟨xk.toArray⟩, .int .i64 xn, .string ⟨xt.toArray⟩] 43)).alloc (.cells #[.int .i64 0, .int .i64 0, .string ⟨#[]⟩, .int .i64 0, .int .i64 0] 39)).cell? ⟨w.heap.size, o, none⟩ = (#[.string ⟨#[76, 111, 97, 100]⟩, .string ⟨xk.toArray⟩, .int .i64 xn, .string ⟨xt.toArray⟩] : Array Value)[o]? from fun o => by simp [go_sem])
  generalize (w.alloc (.cells #[.string ⟨#[76, 111, 97, 100]⟩, .string ⟨xk.toArray⟩, .int .i64 xn, .string ⟨xt.toArray⟩] 43)).alloc (.cells #[.int .i64 0, .int .i64 0, .string ⟨#[]⟩, .int .i64 0, .int .i64 0] 39) = W at *
  have q1 := hW.out 1
  have q2 := hW.out 2
  have q3 := hW.out 3
  simp at q1 q2 q3
  clear hW
  have HBD := Lib.hid (bel_dr HB.out)
  replace HR := Lib.hid (HR.out.below (bel_dr (Below.refl W.heap.size W)))
  replace L2 := Lib.hid (L2.out.below (bel_dr (Below.refl W.heap.size W)))
  go_still_tail 4, (by kernel_rfl)
  change wpList _ _ _ _ _ W.drew
  go_wp2_with fail
  refine (IC.out _ _ HR.out).mono ?_
  rintro e w2 ⟨rfl, cv2, hs2, hk2⟩
  replace L2 := Lib.hid (L2.out.stays hk2 n2b (by decide) (by decide))
  have HK2 := Lib.hid (KeptT.ahead HBD.out HN.out hk2)
  have HS := Lib.hid hs2
  clear hs2 hk2
  unfold vReply
  simp only
  have B_r := Lib.hid L2.out.bx
  have r0 := B_r.out.cell 0 (by simp)
  have r1 := B_r.out.cell 1 (by simp)
  have r2 := B_r.out.cell 2 (by simp)
  have r3 := B_r.out.cell 3 (by simp)
  have r4 := B_r.out.cell 4 (by simp)
  simp only [List.getElem_cons_zero, List.getElem_cons_succ] at r0 r1 r2 r3 r4
  have fr0 := B_r.out.froz 0 (by simp)
  have fr1 := B_r.out.froz 1 (by simp)
  have fr2 := B_r.out.froz 2 (by simp)
  have fr3 := B_r.out.froz 3 (by simp)
  have fr4 := B_r.out.froz 4 (by simp)
  have l_r := B_r.out.lt
  go_wp2_with fail
  refine bodyPost_ret (v := .agg #[.int .i64 t0, .int .i64 t1, .string ⟨t2.toArray⟩, .int .i64 t3, .int .i64 t4]) (by simp [results, Tryz.results153, go_sem, cell_set_at, cell_set_ne, r0, r1, r2, r3, r4]) rfl ?_
  exact done5 ⟨t0, t1, t2, t3, t4⟩ HS.out HK2.out L2.out n2b (by omega) HN.out _ _ _ _ _
set_option maxRecDepth 100000 in
set_option maxHeartbeats 1600000 in
theorem accF_Start (T : TypeId) (V : Value) (x : CallD) (w : World) (hx : x.fMethod = [83, 116, 97, 114, 116]) (hta : Fails 206 T) :
  Calls Tryz.prog 153 #[.iface T V, vCall x] w fun e w' => Panics w e w' := by
 obtain ⟨m, k, n, t⟩ := x
 simp only at hx
 subst hx
 unfold vCall
 obtain ⟨c, E, hta⟩ := hta
 go_enter Tryz.func153, Tryz.ntmps153
 go_wp2_with fail
 exact ⟨rfl, _, rfl, by repeat (first | with_reducible exact Below.refl _ _ | with_reducible refine Below.alloc ?_ (by simp; try omega) _)⟩
set_option maxRecDepth 100000 in
set_option maxHeartbeats 1600000 in
theorem accF_Stop (T : TypeId) (V : Value) (x : CallD) (w : World) (hx : x.fMethod = [83, 116, 111, 112]) (hta : Fails 206 T) :
  Calls Tryz.prog 153 #[.iface T V, vCall x] w fun e w' => Panics w e w' := by
 obtain ⟨m, k, n, t⟩ := x
 simp only at hx
 subst hx
 unfold vCall
 obtain ⟨c, E, hta⟩ := hta
 go_enter Tryz.func153, Tryz.ntmps153
 go_wp2_with fail
 exact ⟨rfl, _, rfl, by repeat (first | with_reducible exact Below.refl _ _ | with_reducible refine Below.alloc ?_ (by simp; try omega) _)⟩
set_option maxRecDepth 100000 in
set_option maxHeartbeats 1600000 in
theorem accF_Get (T : TypeId) (V : Value) (x : CallD) (w : World) (hx : x.fMethod = [71, 101, 116]) (hta : Fails 210 T) :
  Calls Tryz.prog 153 #[.iface T V, vCall x] w fun e w' => Panics w e w' := by
 obtain ⟨m, k, n, t⟩ := x
 simp only at hx
 subst hx
 unfold vCall
 obtain ⟨c, E, hta⟩ := hta
 go_enter Tryz.func153, Tryz.ntmps153
 go_wp2_with fail
 refine wp_region_any (by kernel_rfl) ?_
 change wpAny _ _ _ _ _ _ _ (World.drew _)
 refine wpAny_take (i := 0) (v := ?_) rfl (by kernel_rfl) (by kernel_rfl) (by kernel_rfl) (fun _ _ _ h => h) (Or.inl ⟨by rfl, ?_⟩) ?_
 rotate_left
 ·intro w; go_simp; try (with_reducible rfl)
 refine wpAny_take (i := 2) (v := ?_) rfl (by kernel_rfl) (by kernel_rfl) (by kernel_rfl) (fun _ _ _ h => h) (Or.inl ⟨by rfl, ?_⟩) ?_
 rotate_left
 ·intro w; go_simp; try (with_reducible rfl)
 refine wpAny_ready (rs := [1, 3]) (by kernel_rfl) (by simp) ?_
 refine AllReady.cons rfl (fun K hK => ?_) ?_
 ·go_simp
  exact ⟨rfl, _, rfl, by repeat (first | with_reducible exact Below.refl _ _ | with_reducible refine Below.alloc ?_ (by simp; try omega) _ | with_reducible refine Below.drew ?_ | with_reducible refine below_drewN ?_ _)⟩
 refine AllReady.cons rfl (fun K hK => ?_) ?_
 ·go_simp
  refine hK _ _ ?_
  clear hK K
  refine wpAny_ready (rs := [1]) (by kernel_rfl) (by simp) ?_
  refine AllReady.cons rfl (fun K hK => ?_) ?_
  ·go_simp
   exact ⟨rfl, _, rfl, by repeat (first | with_reducible exact Below.refl _ _ | with_reducible refine Below.alloc ?_ (by simp; try omega) _ | with_reducible refine Below.drew ?_ | with_reducible refine below_drewN ?_ _)⟩
  exact AllReady.nil
 exact AllReady.nil
set_option maxRecDepth 100000 in
set_option maxHeartbeats 1600000 in
theorem accF_Put (T : TypeId) (V : Value) (x : CallD) (w : World) (hx : x.fMethod = [80, 117, 116]) (hta : Fails 210 T) :
  Calls Tryz.prog 153 #[.iface T V, vCall x] w fun e w' => Panics w e w' := by
 obtain ⟨m, k, n, t⟩ := x
 simp only at hx
 subst hx
 unfold vCall
 obtain ⟨c, E, hta⟩ := hta
 go_enter Tryz.func153, Tryz.ntmps153
 go_wp2_with fail
 refine wp_region_any (by kernel_rfl) ?_
 change wpAny _ _ _ _ _ _ _ (World.drew _)
 refine wpAny_take (i := 0) (v := ?_) rfl (by kernel_rfl) (by kernel_rfl) (by kernel_rfl) (fun _ _ _ h => h) (Or.inl ⟨by rfl, ?_⟩) ?_
 rotate_left
 ·intro w; go_simp; try (with_reducible rfl)
 refine wpAny_take (i := 2) (v := ?_) rfl (by kernel_rfl) (by kernel_rfl) (by kernel_rfl) (fun _ _ _ h => h) (Or.inl ⟨by rfl, ?_⟩) ?_
 rotate_left
 ·intro w; go_simp; try (with_reducible rfl)
 refine wpAny_take (i := 4) (v := ?_) rfl (by kernel_rfl) (by kernel_rfl) (by kernel_rfl) (fun _ _ _ h => h) (Or.inl ⟨by rfl, ?_⟩) ?_
 rotate_left
 ·intro w; go_simp; try (with_reducible rfl)
 refine wpAny_ready (rs := [1, 3, 5]) (by kernel_rfl) (by simp) ?_
 refine AllReady.cons rfl (fun K hK => ?_) ?_
 ·go_simp
  exact ⟨rfl, _, rfl, by repeat (first | with_reducible exact Below.refl _ _ | with_reducible refine Below.alloc ?_ (by simp; try omega) _ | with_reducible refine Below.drew ?_ | with_reducible refine below_drewN ?_ _)⟩
 refine AllReady.cons rfl (fun K hK => ?_) ?_
 ·go_simp
  refine hK _ _ ?_
  clear hK K
  refine wpAny_ready (rs := [1, 5]) (by kernel_rfl) (by simp) ?_
  refine AllReady.cons rfl (fun K hK => ?_) ?_
  ·go_simp
   exact ⟨rfl, _, rfl, by repeat (first | with_reducible exact Below.refl _ _ | with_reducible refine Below.alloc ?_ (by simp; try omega) _ | with_reducible refine Below.drew ?_ | with_reducible refine below_drewN ?_ _)⟩
  refine AllReady.cons rfl (fun K hK => ?_) ?_
  ·go_simp
   refine hK _ _ ?_
   clear hK K
   refine wpAny_ready (rs := [1]) (by kernel_rfl) (by simp) ?_
   refine AllReady.cons rfl (fun K hK => ?_) ?_
   ·go_simp
    exact ⟨rfl, _, rfl, by repeat (first | with_reducible exact Below.refl _ _ | with_reducible refine Below.alloc ?_ (by simp; try omega) _ | with_reducible refine Below.drew ?_ | with_reducible refine below_drewN ?_ _)⟩
   exact AllReady.nil
  exact AllReady.nil
 refine AllReady.cons rfl (fun K hK => ?_) ?_
 ·go_simp
  refine hK _ _ ?_
  clear hK K
  refine wpAny_ready (rs := [1, 3]) (by kernel_rfl) (by simp) ?_
  refine AllReady.cons rfl (fun K hK => ?_) ?_
  ·go_simp
   exact ⟨rfl, _, rfl, by repeat (first | with_reducible exact Below.refl _ _ | with_reducible refine Below.alloc ?_ (by simp; try omega) _ | with_reducible refine Below.drew ?_ | with_reducible refine below_drewN ?_ _)⟩
  refine AllReady.cons rfl (fun K hK => ?_) ?_
  ·go_simp
   refine hK _ _ ?_
   clear hK K
   refine wpAny_ready (rs := [1]) (by kernel_rfl) (by simp) ?_
   refine AllReady.cons rfl (fun K hK => ?_) ?_
   ·go_simp
    exact ⟨rfl, _, rfl, by repeat (first | with_reducible exact Below.refl _ _ | with_reducible refine Below.alloc ?_ (by simp; try omega) _ | with_reducible refine Below.drew ?_ | with_reducible refine below_drewN ?_ _)⟩
   exact AllReady.nil
  exact AllReady.nil
 exact AllReady.nil
set_option maxRecDepth 100000 in
set_option maxHeartbeats 1600000 in
theorem accF_Tell (T : TypeId) (V : Value) (x : CallD) (w : World) (hx : x.fMethod = [84, 101, 108, 108]) (hta : Fails 222 T) :
  Calls Tryz.prog 153 #[.iface T V, vCall x] w fun e w' => Panics w e w' := by
 obtain ⟨m, k, n, t⟩ := x
 simp only at hx
 subst hx
 unfold vCall
 obtain ⟨c, E, hta⟩ := hta
 go_enter Tryz.func153, Tryz.ntmps153
 go_wp2_with fail
 exact ⟨rfl, _, rfl, by repeat (first | with_reducible exact Below.refl _ _ | with_reducible refine Below.alloc ?_ (by simp; try omega) _)⟩
set_option maxRecDepth 100000 in
set_option maxHeartbeats 1600000 in
theorem accF_Hear (T : TypeId) (V : Value) (x : CallD) (w : World) (hx : x.fMethod = [72, 101, 97, 114]) (hta : Fails 231 T) :
  Calls Tryz.prog 153 #[.iface T V, vCall x] w fun e w' => Panics w e w' := by
 obtain ⟨m, k, n, t⟩ := x
 simp only at hx
 subst hx
 unfold vCall
 obtain ⟨c, E, hta⟩ := hta
 go_enter Tryz.func153, Tryz.ntmps153
 go_wp2_with fail
 refine wp_region_any (by kernel_rfl) ?_
 change wpAny _ _ _ _ _ _ _ (World.drew _)
 refine wpAny_take (i := 0) (v := ?_) rfl (by kernel_rfl) (by kernel_rfl) (by kernel_rfl) (fun _ _ _ h => h) (Or.inl ⟨by rfl, ?_⟩) ?_
 rotate_left
 ·intro w; go_simp; try (with_reducible rfl)
 refine wpAny_take (i := 2) (v := ?_) rfl (by kernel_rfl) (by kernel_rfl) (by kernel_rfl) (fun _ _ _ h => h) (Or.inl ⟨by rfl, ?_⟩) ?_
 rotate_left
 ·intro w; go_simp; try (with_reducible rfl)
 refine wpAny_ready (rs := [1, 3]) (by kernel_rfl) (by simp) ?_
 refine AllReady.cons rfl (fun K hK => ?_) ?_
 ·go_simp
  exact ⟨rfl, _, rfl, by repeat (first | with_reducible exact Below.refl _ _ | with_reducible refine Below.alloc ?_ (by simp; try omega) _ | with_reducible refine Below.drew ?_ | with_reducible refine below_drewN ?_ _)⟩
 refine AllReady.cons rfl (fun K hK => ?_) ?_
 ·go_simp
  refine hK _ _ ?_
  clear hK K
  refine wpAny_ready (rs := [1]) (by kernel_rfl) (by simp) ?_
  refine AllReady.cons rfl (fun K hK => ?_) ?_
  ·go_simp
   exact ⟨rfl, _, rfl, by repeat (first | with_reducible exact Below.refl _ _ | with_reducible refine Below.alloc ?_ (by simp; try omega) _ | with_reducible refine Below.drew ?_ | with_reducible refine below_drewN ?_ _)⟩
  exact AllReady.nil
 exact AllReady.nil
set_option maxRecDepth 100000 in
set_option maxHeartbeats 1600000 in
theorem accF_Load (T : TypeId) (V : Value) (x : CallD) (w : World) (hx : x.fMethod = [76, 111, 97, 100]) (hta : Fails 234 T) :
  Calls Tryz.prog 153 #[.iface T V, vCall x] w fun e w' => Panics w e w' := by
 obtain ⟨m, k, n, t⟩ := x
 simp only at hx
 subst hx
 unfold vCall
 obtain ⟨c, E, hta⟩ := hta
 go_enter Tryz.func153, Tryz.ntmps153
 go_wp2_with fail
 refine wp_region_any (by kernel_rfl) ?_
 change wpAny _ _ _ _ _ _ _ (World.drew _)
 refine wpAny_take (i := 0) (v := ?_) rfl (by kernel_rfl) (by kernel_rfl) (by kernel_rfl) (fun _ _ _ h => h) (Or.inl ⟨by rfl, ?_⟩) ?_
 rotate_left
 ·intro w; go_simp; try (with_reducible rfl)
 refine wpAny_take (i := 2) (v := ?_) rfl (by kernel_rfl) (by kernel_rfl) (by kernel_rfl) (fun _ _ _ h => h) (Or.inl ⟨by rfl, ?_⟩) ?_
 rotate_left
 ·intro w; go_simp; try (with_reducible rfl)
 refine wpAny_ready (rs := [1, 3]) (by kernel_rfl) (by simp) ?_
 refine AllReady.cons rfl (fun K hK => ?_) ?_
 ·go_simp
  exact ⟨rfl, _, rfl, by repeat (first | with_reducible exact Below.refl _ _ | with_reducible refine Below.alloc ?_ (by simp; try omega) _ | with_reducible refine Below.drew ?_ | with_reducible refine below_drewN ?_ _)⟩
 refine AllReady.cons rfl (fun K hK => ?_) ?_
 ·go_simp
  refine hK _ _ ?_
  clear hK K
  refine wpAny_ready (rs := [1]) (by kernel_rfl) (by simp) ?_
  refine AllReady.cons rfl (fun K hK => ?_) ?_
  ·go_simp
   exact ⟨rfl, _, rfl, by repeat (first | with_reducible exact Below.refl _ _ | with_reducible refine Below.alloc ?_ (by simp; try omega) _ | with_reducible refine Below.drew ?_ | with_reducible refine below_drewN ?_ _)⟩
  exact AllReady.nil
 exact AllReady.nil
set_option maxRecDepth 100000 in
set_option maxHeartbeats 1600000 in
theorem accF_Save (T : TypeId) (V : Value) (x : CallD) (w : World) (hx : x.fMethod = [83, 97, 118, 101]) (hta : Fails 234 T) :
  Calls Tryz.prog 153 #[.iface T V, vCall x] w fun e w' => Panics w e w' := by
 obtain ⟨m, k, n, t⟩ := x
 simp only at hx
 subst hx
 unfold vCall
 obtain ⟨c, E, hta⟩ := hta
 go_enter Tryz.func153, Tryz.ntmps153
 go_wp2_with fail
 exact ⟨rfl, _, rfl, by repeat (first | with_reducible exact Below.refl _ _ | with_reducible refine Below.alloc ?_ (by simp; try omega) _)⟩
set_option maxRecDepth 100000 in
set_option maxHeartbeats 1600000 in
theorem accF_Heal (T : TypeId) (V : Value) (x : CallD) (w : World) (hx : x.fMethod = [72, 101, 97, 108]) (hta : Fails 236 T) :
  Calls Tryz.prog 153 #[.iface T V, vCall x] w fun e w' => Panics w e w' := by
 obtain ⟨m, k, n, t⟩ := x
 simp only at hx
 subst hx
 unfold vCall
 obtain ⟨c, E, hta⟩ := hta
 go_enter Tryz.func153, Tryz.ntmps153
 go_wp2_with fail
 exact ⟨rfl, _, rfl, by repeat (first | with_reducible exact Below.refl _ _ | with_reducible refine Below.alloc ?_ (by simp; try omega) _)⟩
def dlv (n : Nat) (f : Int) (p : PartD) (x : CallD) : PartD × ReplyD := if offersF f (wantF x.fMethod) = true then lyDo n p x else (p, ⟨1, 0, [], wantF x.fMethod, f⟩)
theorem meets_has {I T : TypeId} {b : Bool} (h : Meets I T b) (hb : b = true) : Has I T := by subst hb; exact h
theorem meets_fails {I T : TypeId} {b : Bool} (h : Meets I T b) (hb : ¬ b = true) : Fails I T := by cases b; exact h; exact absurd rfl hb
theorem dlv_Start (mx : Int) (N b n : Nat) (lv cv : Value) (k0 : List UInt8) (nms : List (List UInt8)) (T : TypeId) (V : Value) (f : Int) (x : CallD) (p : PartD) (w : World) (hR : Ready mx N b lv cv k0 nms p w) (hn3 : n ≤ 3) (S : Stack mx N b lv k0 nms n T V f) (A : Ass6 T f) (hF : FaceAt w T V f) (y : GoodX x mStart) :
  Calls Tryz.prog 117 #[.iface T V, vCall x] w fun e w' => Does4 N b lv (dlv n f p x) w e w' := by
 have hw : wantF x.fMethod = 1 := by rw [y.hm]; rfl
 by_cases ho : offersF f 1 = true
 ·rw [show dlv n f p x = lyDo n p x from if_pos (by rw [hw]; exact ho)]
  exact deliver4_ok mx N b lv cv k0 nms T V x _ p w hR fun W hb => (acc_Start mx N b n lv k0 nms T V x y.hm hn3 (meets_has A.run ho) (S.start ho x y) p cv W (hR.below hb)).mono fun e w' h => h
 ·rw [show dlv n f p x = (p, ⟨1, 0, [], wantF x.fMethod, f⟩) from if_neg (by rw [hw]; exact ho)]
  exact deliver4_fail mx N b lv cv k0 nms T V f x p w hR hF fun W => accF_Start T V x W y.hm (meets_fails A.run ho)
theorem dlv_Stop (mx : Int) (N b n : Nat) (lv cv : Value) (k0 : List UInt8) (nms : List (List UInt8)) (T : TypeId) (V : Value) (f : Int) (x : CallD) (p : PartD) (w : World) (hR : Ready mx N b lv cv k0 nms p w) (hn3 : n ≤ 3) (S : Stack mx N b lv k0 nms n T V f) (A : Ass6 T f) (hF : FaceAt w T V f) (y : GoodX x mStop) :
  Calls Tryz.prog 117 #[.iface T V, vCall x] w fun e w' => Does4 N b lv (dlv n f p x) w e w' := by
 have hw : wantF x.fMethod = 1 := by rw [y.hm]; rfl
 by_cases ho : offersF f 1 = true
 ·rw [show dlv n f p x = lyDo n p x from if_pos (by rw [hw]; exact ho)]
  exact deliver4_ok mx N b lv cv k0 nms T V x _ p w hR fun W hb => (acc_Stop mx N b n lv k0 nms T V x y.hm hn3 (meets_has A.run ho) (S.stop ho x y) p cv W (hR.below hb)).mono fun e w' h => h
 ·rw [show dlv n f p x = (p, ⟨1, 0, [], wantF x.fMethod, f⟩) from if_neg (by rw [hw]; exact ho)]
  exact deliver4_fail mx N b lv cv k0 nms T V f x p w hR hF fun W => accF_Stop T V x W y.hm (meets_fails A.run ho)
theorem dlv_Get (mx : Int) (N b n : Nat) (lv cv : Value) (k0 : List UInt8) (nms : List (List UInt8)) (T : TypeId) (V : Value) (f : Int) (x : CallD) (p : PartD) (w : World) (hR : Ready mx N b lv cv k0 nms p w) (hn3 : n ≤ 3) (S : Stack mx N b lv k0 nms n T V f) (A : Ass6 T f) (hF : FaceAt w T V f) (y : GoodX x mGet) :
  Calls Tryz.prog 117 #[.iface T V, vCall x] w fun e w' => Does4 N b lv (dlv n f p x) w e w' := by
 have hw : wantF x.fMethod = 2 := by rw [y.hm]; rfl
 by_cases ho : offersF f 2 = true
 ·rw [show dlv n f p x = lyDo n p x from if_pos (by rw [hw]; exact ho)]
  exact deliver4_ok mx N b lv cv k0 nms T V x _ p w hR fun W hb => (acc_Get mx N b n lv k0 nms T V x y.hm hn3 (meets_has A.keep ho) (S.get ho x y) p cv W (hR.below hb)).mono fun e w' h => h
 ·rw [show dlv n f p x = (p, ⟨1, 0, [], wantF x.fMethod, f⟩) from if_neg (by rw [hw]; exact ho)]
  exact deliver4_fail mx N b lv cv k0 nms T V f x p w hR hF fun W => accF_Get T V x W y.hm (meets_fails A.keep ho)
theorem dlv_Put (mx : Int) (N b n : Nat) (lv cv : Value) (k0 : List UInt8) (nms : List (List UInt8)) (T : TypeId) (V : Value) (f : Int) (x : CallD) (p : PartD) (w : World) (hR : Ready mx N b lv cv k0 nms p w) (hn3 : n ≤ 3) (S : Stack mx N b lv k0 nms n T V f) (A : Ass6 T f) (hF : FaceAt w T V f) (y : GoodX x mPut) :
  Calls Tryz.prog 117 #[.iface T V, vCall x] w fun e w' => Does4 N b lv (dlv n f p x) w e w' := by
 have hw : wantF x.fMethod = 2 := by rw [y.hm]; rfl
 by_cases ho : offersF f 2 = true
 ·rw [show dlv n f p x = lyDo n p x from if_pos (by rw [hw]; exact ho)]
  exact deliver4_ok mx N b lv cv k0 nms T V x _ p w hR fun W hb => (acc_Put mx N b n lv k0 nms T V x y.hm hn3 (meets_has A.keep ho) (S.put ho x y) p cv W (hR.below hb)).mono fun e w' h => h
 ·rw [show dlv n f p x = (p, ⟨1, 0, [], wantF x.fMethod, f⟩) from if_neg (by rw [hw]; exact ho)]
  exact deliver4_fail mx N b lv cv k0 nms T V f x p w hR hF fun W => accF_Put T V x W y.hm (meets_fails A.keep ho)
theorem dlv_Tell (mx : Int) (N b n : Nat) (lv cv : Value) (k0 : List UInt8) (nms : List (List UInt8)) (T : TypeId) (V : Value) (f : Int) (x : CallD) (p : PartD) (w : World) (hR : Ready mx N b lv cv k0 nms p w) (hn3 : n ≤ 3) (S : Stack mx N b lv k0 nms n T V f) (A : Ass6 T f) (hF : FaceAt w T V f) (y : GoodX x mTell) :
  Calls Tryz.prog 117 #[.iface T V, vCall x] w fun e w' => Does4 N b lv (dlv n f p x) w e w' := by
 have hw : wantF x.fMethod = 4 := by rw [y.hm]; rfl
 by_cases ho : offersF f 4 = true
 ·rw [show dlv n f p x = lyDo n p x from if_pos (by rw [hw]; exact ho)]
  exact deliver4_ok mx N b lv cv k0 nms T V x _ p w hR fun W hb => (acc_Tell mx N b n lv k0 nms T V x y.hm hn3 (meets_has A.tell ho) (S.tell ho x y) p cv W (hR.below hb)).mono fun e w' h => h
 ·rw [show dlv n f p x = (p, ⟨1, 0, [], wantF x.fMethod, f⟩) from if_neg (by rw [hw]; exact ho)]
  exact deliver4_fail mx N b lv cv k0 nms T V f x p w hR hF fun W => accF_Tell T V x W y.hm (meets_fails A.tell ho)
theorem dlv_Hear (mx : Int) (N b n : Nat) (lv cv : Value) (k0 : List UInt8) (nms : List (List UInt8)) (T : TypeId) (V : Value) (f : Int) (x : CallD) (p : PartD) (w : World) (hR : Ready mx N b lv cv k0 nms p w) (hn3 : n ≤ 3) (S : Stack mx N b lv k0 nms n T V f) (A : Ass6 T f) (hF : FaceAt w T V f) (y : GoodX x mHear) :
  Calls Tryz.prog 117 #[.iface T V, vCall x] w fun e w' => Does4 N b lv (dlv n f p x) w e w' := by
 have hw : wantF x.fMethod = 8 := by rw [y.hm]; rfl
 by_cases ho : offersF f 8 = true
 ·rw [show dlv n f p x = lyDo n p x from if_pos (by rw [hw]; exact ho)]
  exact deliver4_ok mx N b lv cv k0 nms T V x _ p w hR fun W hb => (acc_Hear mx N b n lv k0 nms T V x y.hm hn3 (meets_has A.hear ho) (S.hear ho x y) p cv W (hR.below hb)).mono fun e w' h => h
 ·rw [show dlv n f p x = (p, ⟨1, 0, [], wantF x.fMethod, f⟩) from if_neg (by rw [hw]; exact ho)]
  exact deliver4_fail mx N b lv cv k0 nms T V f x p w hR hF fun W => accF_Hear T V x W y.hm (meets_fails A.hear ho)
theorem dlv_Load (mx : Int) (N b n : Nat) (lv cv : Value) (k0 : List UInt8) (nms : List (List UInt8)) (T : TypeId) (V : Value) (f : Int) (x : CallD) (p : PartD) (w : World) (hR : Ready mx N b lv cv k0 nms p w) (hn3 : n ≤ 3) (S : Stack mx N b lv k0 nms n T V f) (A : Ass6 T f) (hF : FaceAt w T V f) (y : GoodX x mLoad) :
  Calls Tryz.prog 117 #[.iface T V, vCall x] w fun e w' => Does4 N b lv (dlv n f p x) w e w' := by
 have hw : wantF x.fMethod = 16 := by rw [y.hm]; rfl
 by_cases ho : offersF f 16 = true
 ·rw [show dlv n f p x = lyDo n p x from if_pos (by rw [hw]; exact ho)]
  exact deliver4_ok mx N b lv cv k0 nms T V x _ p w hR fun W hb => (acc_Load mx N b n lv k0 nms T V x y.hm hn3 (meets_has A.save ho) (S.load ho x y) p cv W (hR.below hb)).mono fun e w' h => h
 ·rw [show dlv n f p x = (p, ⟨1, 0, [], wantF x.fMethod, f⟩) from if_neg (by rw [hw]; exact ho)]
  exact deliver4_fail mx N b lv cv k0 nms T V f x p w hR hF fun W => accF_Load T V x W y.hm (meets_fails A.save ho)
theorem dlv_Save (mx : Int) (N b n : Nat) (lv cv : Value) (k0 : List UInt8) (nms : List (List UInt8)) (T : TypeId) (V : Value) (f : Int) (x : CallD) (p : PartD) (w : World) (hR : Ready mx N b lv cv k0 nms p w) (hn3 : n ≤ 3) (S : Stack mx N b lv k0 nms n T V f) (A : Ass6 T f) (hF : FaceAt w T V f) (y : GoodX x mSave) :
  Calls Tryz.prog 117 #[.iface T V, vCall x] w fun e w' => Does4 N b lv (dlv n f p x) w e w' := by
 have hw : wantF x.fMethod = 16 := by rw [y.hm]; rfl
 by_cases ho : offersF f 16 = true
 ·rw [show dlv n f p x = lyDo n p x from if_pos (by rw [hw]; exact ho)]
  exact deliver4_ok mx N b lv cv k0 nms T V x _ p w hR fun W hb => (acc_Save mx N b n lv k0 nms T V x y.hm hn3 (meets_has A.save ho) (S.save ho x y) p cv W (hR.below hb)).mono fun e w' h => h
 ·rw [show dlv n f p x = (p, ⟨1, 0, [], wantF x.fMethod, f⟩) from if_neg (by rw [hw]; exact ho)]
  exact deliver4_fail mx N b lv cv k0 nms T V f x p w hR hF fun W => accF_Save T V x W y.hm (meets_fails A.save ho)
theorem dlv_Heal (mx : Int) (N b n : Nat) (lv cv : Value) (k0 : List UInt8) (nms : List (List UInt8)) (T : TypeId) (V : Value) (f : Int) (x : CallD) (p : PartD) (w : World) (hR : Ready mx N b lv cv k0 nms p w) (hn3 : n ≤ 3) (S : Stack mx N b lv k0 nms n T V f) (A : Ass6 T f) (hF : FaceAt w T V f) (y : GoodX x mHeal) :
  Calls Tryz.prog 117 #[.iface T V, vCall x] w fun e w' => Does4 N b lv (dlv n f p x) w e w' := by
 have hw : wantF x.fMethod = 32 := by rw [y.hm]; rfl
 by_cases ho : offersF f 32 = true
 ·rw [show dlv n f p x = lyDo n p x from if_pos (by rw [hw]; exact ho)]
  exact deliver4_ok mx N b lv cv k0 nms T V x _ p w hR fun W hb => (acc_Heal mx N b n lv k0 nms T V x y.hm hn3 (meets_has A.heal ho) (S.heal ho x y) p cv W (hR.below hb)).mono fun e w' h => h
 ·rw [show dlv n f p x = (p, ⟨1, 0, [], wantF x.fMethod, f⟩) from if_neg (by rw [hw]; exact ho)]
  exact deliver4_fail mx N b lv cv k0 nms T V f x p w hR hF fun W => accF_Heal T V x W y.hm (meets_fails A.heal ho)
theorem dlv_c (mx : Int) (N b n : Nat) (lv cv : Value) (k0 : List UInt8) (nms : List (List UInt8)) (T : TypeId) (V : Value) (f : Int) (x : CallD) (p : PartD) (w : World) (hR : Ready mx N b lv cv k0 nms p w) (hn3 : n ≤ 3) (S : Stack mx N b lv k0 nms n T V f) (A : Ass6 T f) (hF : FaceAt w T V f) (hc : callB x = true) (hk : x.fKey.length ≤ 1048576) (ht : x.fText.length ≤ 1048576) :
  Calls Tryz.prog 117 #[.iface T V, vCall x] w fun e w' => Does4 N b lv (dlv n f p x) w e w' := by
 have hc2 := hc
 simp only [callB, Bool.and_eq_true, bne_iff_ne, ne_eq] at hc2
 have hw := hc2.1.1.1
 rcases meth_cases x.fMethod with hm | hm | hm | hm | hm | hm | hm | hm | hm | hm
 case inr.inr.inr.inr.inr.inr.inr.inr.inr => exact absurd hm.1 hw
 ·exact dlv_Start mx N b n lv cv k0 nms T V f x p w hR hn3 S A hF ⟨hc, hk, ht, hm⟩
 ·exact dlv_Stop mx N b n lv cv k0 nms T V f x p w hR hn3 S A hF ⟨hc, hk, ht, hm⟩
 ·exact dlv_Get mx N b n lv cv k0 nms T V f x p w hR hn3 S A hF ⟨hc, hk, ht, hm⟩
 ·exact dlv_Put mx N b n lv cv k0 nms T V f x p w hR hn3 S A hF ⟨hc, hk, ht, hm⟩
 ·exact dlv_Tell mx N b n lv cv k0 nms T V f x p w hR hn3 S A hF ⟨hc, hk, ht, hm⟩
 ·exact dlv_Hear mx N b n lv cv k0 nms T V f x p w hR hn3 S A hF ⟨hc, hk, ht, hm⟩
 ·exact dlv_Load mx N b n lv cv k0 nms T V f x p w hR hn3 S A hF ⟨hc, hk, ht, hm⟩
 ·exact dlv_Save mx N b n lv cv k0 nms T V f x p w hR hn3 S A hF ⟨hc, hk, ht, hm⟩
 ·exact dlv_Heal mx N b n lv cv k0 nms T V f x p w hR hn3 S A hF ⟨hc, hk, ht, hm⟩
set_option maxRecDepth 100000 in
set_option maxHeartbeats 3200000 in
theorem counts_Get (mx : Int) (N b g m cap n : Nat) (k0 : List UInt8) (nms : List (List UInt8)) (T : TypeId) (V : Value) (x : CallD) (key : List UInt8) (hx : keptB x.fMethod = true) (ht : x.fMethod ≠ mTell) (hn : n < nms.length) (hn3 : n < 3) (hnm : nms.getD n [] = nCounts) (HI : MthOk mx N b (.slice (some ⟨g, 0, none⟩) m cap) k0 nms n FsGet T V "Get" #[.string ⟨key.toArray⟩] x)
  (p : PartD) (cv : Value) (w : World) (hR : Ready mx N b (.slice (some ⟨g, 0, none⟩) m cap) cv k0 nms p w) :
  Calls Tryz.prog 232 #[.agg #[.pointer (some ⟨g, n * 2, none⟩), .iface T V], .string ⟨key.toArray⟩] w fun e w' => Does4 N b (.slice (some ⟨g, 0, none⟩) m cap) (lyDo (n + 1) p x) w e w' := by
 have hpl := hR.len
 have hi : n < p.fLayers.length := by omega
 have hnmp : nmL p n = nCounts := (hR.nm n).trans hnm
 have hbl := hR.st.core.box.lt
 have HL := Lib.hid (show lyDo (n + 1) p x = lyDo n (updL p n) x from by rw [lyDo_upd n p x n (Nat.le_refl _)]; show (if _ then _ else if _ then _ else _) = _; rw [if_neg (fun h => ht h.2), if_pos ⟨hnmp, hx⟩])
 rw [HL.out]
 clear HL
 obtain ⟨IF, Ir, If, Im, In, Ic⟩ := HI
 have Im4 : ∀ (fuel : Nat) (w : World), (method (fuel + 4) T V _).run Tryz.prog w = .ok (IF, Ir) w := fun fuel w => by have h := Im (fuel + 3 - n) w; rwa [show fuel + 3 - n + n + 1 = fuel + 4 by omega] at h
 have In4 : ∀ (fuel : Nat) (w : World), (nilAhead (fuel + 4) T V _).run Tryz.prog w = .ok (some false) w := fun fuel w => by have h := In (fuel + 3 - n) w; rwa [show fuel + 3 - n + n + 1 = fuel + 4 by omega] at h
 have IC := Lib.hid Ic
 clear Im In Ic
 have L1 := Lib.hid ((Loc.new w [.pointer (some ⟨g, n * 2, none⟩), .iface T V] 213).past (.cells #[.int .i64 0, .int .i64 0, .string ⟨#[]⟩, .int .i64 0, .int .i64 0] 39))
 have L2 := Lib.hid (Loc.new (w.alloc (.cells #[.pointer (some ⟨g, n * 2, none⟩), .iface T V] 213)) [.int .i64 0, .int .i64 0, .string ⟨#[]⟩, .int .i64 0, .int .i64 0] 39)
 have HB := Lib.hid (belS (bx_box w (.cells #[.pointer (some ⟨g, n * 2, none⟩), .iface T V] 213)) (bx_box (w.alloc (.cells #[.pointer (some ⟨g, n * 2, none⟩), .iface T V] 213)) (.cells #[.int .i64 0, .int .i64 0, .string ⟨#[]⟩, .int .i64 0, .int .i64 0] 39)))
 rw [show (w.alloc (.cells #[.pointer (some ⟨g, n * 2, none⟩), .iface T V] 213)).heap.size = w.heap.size + 1 by simp] at L2
 have n1b : w.heap.size ≠ b := by omega
 have n2b : w.heap.size + 1 ≠ b := by omega
 have HR := Lib.hid (hR.below HB.out)
 have HN := Lib.hid hR.hN
 have hcr := cnt_range hR.ok n hi
 have HU := Lib.hid (upd_part hR.ok n hi (by rw [hnmp]; exact counts_counted))
 clear hR
 have HO := Lib.hid (fun cv w h => IC.out (updL p n) cv w h)
 generalize lyDo n (updL p n) x = out at *
 obtain ⟨q, t0, t1, t2, t3, t4⟩ := out
 simp only [List.mem_cons, List.not_mem_nil, or_false] at If
 rcases If with rfl | rfl | rfl
 all_goals
  go_enter Tryz.func232, Tryz.ntmps232
  have B_a := Lib.hid L1.out.bx
  have a0 := B_a.out.cell 0 (by simp)
  have a1 := B_a.out.cell 1 (by simp)
  simp only [List.getElem_cons_zero, List.getElem_cons_succ] at a0 a1
  have fa0 := B_a.out.froz 0 (by simp)
  have fa1 := B_a.out.froz 1 (by simp)
  have l_a := B_a.out.lt
  go_wp2_with fail
  clear B_a l_a a0 a1 fa0 fa1
  generalize (w.alloc (.cells #[.pointer (some ⟨g, n * 2, none⟩), .iface T V] 213)).alloc (.cells #[.int .i64 0, .int .i64 0, .string ⟨#[]⟩, .int .i64 0, .int .i64 0] 39) = w0 at *
  refine (countCall_c N b g m cap n cv p _ HR.out.st HR.out.hN hi hcr).mono ?_
  rintro e w1 ⟨rfl, hs1, hk1⟩
  replace HR := Lib.hid (HR.out.next hs1 hk1 HU.out rfl (names_upd p n))
  replace L1 := Lib.hid (L1.out.stays hk1 n1b (by decide) (by decide))
  replace L2 := Lib.hid (L2.out.stays hk1 n2b (by decide) (by decide))
  have HK := Lib.hid ((KeptT.of_below (N := N) (b := b) HB.out HN.out).trans hk1)
  clear hs1 hk1
  have B_a := Lib.hid L1.out.bx
  have a0 := B_a.out.cell 0 (by simp)
  have a1 := B_a.out.cell 1 (by simp)
  simp only [List.getElem_cons_zero, List.getElem_cons_succ] at a0 a1
  have fa0 := B_a.out.froz 0 (by simp)
  have fa1 := B_a.out.froz 1 (by simp)
  have l_a := B_a.out.lt
  go_wp2_with fail
  clear B_a l_a a0 a1 fa0 fa1
  refine (HO.out _ _ HR.out).mono ?_
  rintro e w2 ⟨rfl, cv2, hs2, hk2⟩
  replace L2 := Lib.hid (L2.out.stays hk2 n2b (by decide) (by decide))
  have HK2 := Lib.hid (HK.out.trans hk2)
  have HS := Lib.hid hs2
  clear hs2 hk2
  unfold vReply
  simp only
  have B_r := Lib.hid L2.out.bx
  have r0 := B_r.out.cell 0 (by simp)
  have r1 := B_r.out.cell 1 (by simp)
  have r2 := B_r.out.cell 2 (by simp)
  have r3 := B_r.out.cell 3 (by simp)
  have r4 := B_r.out.cell 4 (by simp)
  simp only [List.getElem_cons_zero, List.getElem_cons_succ] at r0 r1 r2 r3 r4
  have fr0 := B_r.out.froz 0 (by simp)
  have fr1 := B_r.out.froz 1 (by simp)
  have fr2 := B_r.out.froz 2 (by simp)
  have fr3 := B_r.out.froz 3 (by simp)
  have fr4 := B_r.out.froz 4 (by simp)
  have l_r := B_r.out.lt
  go_wp2_with fail
  refine bodyPost_ret (v := .agg #[.int .i64 t0, .int .i64 t1, .string ⟨t2.toArray⟩, .int .i64 t3, .int .i64 t4]) (by simp [results, Tryz.results232, go_sem, cell_set_at, cell_set_ne, r0, r1, r2, r3, r4]) rfl ?_
  exact done5 ⟨t0, t1, t2, t3, t4⟩ HS.out HK2.out L2.out n2b (by omega) HN.out _ _ _ _ _
set_option maxRecDepth 100000 in
set_option maxHeartbeats 3200000 in
theorem counts_Put (mx : Int) (N b g m cap n : Nat) (k0 : List UInt8) (nms : List (List UInt8)) (T : TypeId) (V : Value) (x : CallD) (key : List UInt8) (val : Int) (hx : keptB x.fMethod = true) (ht : x.fMethod ≠ mTell) (hn : n < nms.length) (hn3 : n < 3) (hnm : nms.getD n [] = nCounts) (HI : MthOk mx N b (.slice (some ⟨g, 0, none⟩) m cap) k0 nms n FsPut T V "Put" #[.string ⟨key.toArray⟩, .int .i64 val] x)
  (p : PartD) (cv : Value) (w : World) (hR : Ready mx N b (.slice (some ⟨g, 0, none⟩) m cap) cv k0 nms p w) :
  Calls Tryz.prog 233 #[.agg #[.pointer (some ⟨g, n * 2, none⟩), .iface T V], .string ⟨key.toArray⟩, .int .i64 val] w fun e w' => Does4 N b (.slice (some ⟨g, 0, none⟩) m cap) (lyDo (n + 1) p x) w e w' := by
 have hpl := hR.len
 have hi : n < p.fLayers.length := by omega
 have hnmp : nmL p n = nCounts := (hR.nm n).trans hnm
 have hbl := hR.st.core.box.lt
 have HL := Lib.hid (show lyDo (n + 1) p x = lyDo n (updL p n) x from by rw [lyDo_upd n p x n (Nat.le_refl _)]; show (if _ then _ else if _ then _ else _) = _; rw [if_neg (fun h => ht h.2), if_pos ⟨hnmp, hx⟩])
 rw [HL.out]
 clear HL
 obtain ⟨IF, Ir, If, Im, In, Ic⟩ := HI
 have Im4 : ∀ (fuel : Nat) (w : World), (method (fuel + 4) T V _).run Tryz.prog w = .ok (IF, Ir) w := fun fuel w => by have h := Im (fuel + 3 - n) w; rwa [show fuel + 3 - n + n + 1 = fuel + 4 by omega] at h
 have In4 : ∀ (fuel : Nat) (w : World), (nilAhead (fuel + 4) T V _).run Tryz.prog w = .ok (some false) w := fun fuel w => by have h := In (fuel + 3 - n) w; rwa [show fuel + 3 - n + n + 1 = fuel + 4 by omega] at h
 have IC := Lib.hid Ic
 clear Im In Ic
 have L1 := Lib.hid ((Loc.new w [.pointer (some ⟨g, n * 2, none⟩), .iface T V] 213).past (.cells #[.int .i64 0, .int .i64 0, .string ⟨#[]⟩, .int .i64 0, .int .i64 0] 39))
 have L2 := Lib.hid (Loc.new (w.alloc (.cells #[.pointer (some ⟨g, n * 2, none⟩), .iface T V] 213)) [.int .i64 0, .int .i64 0, .string ⟨#[]⟩, .int .i64 0, .int .i64 0] 39)
 have HB := Lib.hid (belS (bx_box w (.cells #[.pointer (some ⟨g, n * 2, none⟩), .iface T V] 213)) (bx_box (w.alloc (.cells #[.pointer (some ⟨g, n * 2, none⟩), .iface T V] 213)) (.cells #[.int .i64 0, .int .i64 0, .string ⟨#[]⟩, .int .i64 0, .int .i64 0] 39)))
 rw [show (w.alloc (.cells #[.pointer (some ⟨g, n * 2, none⟩), .iface T V] 213)).heap.size = w.heap.size + 1 by simp] at L2
 have n1b : w.heap.size ≠ b := by omega
 have n2b : w.heap.size + 1 ≠ b := by omega
 have HR := Lib.hid (hR.below HB.out)
 have HN := Lib.hid hR.hN
 have hcr := cnt_range hR.ok n hi
 have HU := Lib.hid (upd_part hR.ok n hi (by rw [hnmp]; exact counts_counted))
 clear hR
 have HO := Lib.hid (fun cv w h => IC.out (updL p n) cv w h)
 generalize lyDo n (updL p n) x = out at *
 obtain ⟨q, t0, t1, t2, t3, t4⟩ := out
 simp only [List.mem_cons, List.not_mem_nil, or_false] at If
 rcases If with rfl | rfl | rfl | rfl
 all_goals
  go_enter Tryz.func233, Tryz.ntmps233
  have B_a := Lib.hid L1.out.bx
  have a0 := B_a.out.cell 0 (by simp)
  have a1 := B_a.out.cell 1 (by simp)
  simp only [List.getElem_cons_zero, List.getElem_cons_succ] at a0 a1
  have fa0 := B_a.out.froz 0 (by simp)
  have fa1 := B_a.out.froz 1 (by simp)
  have l_a := B_a.out.lt
  go_wp2_with fail
  clear B_a l_a a0 a1 fa0 fa1
  generalize (w.alloc (.cells #[.pointer (some ⟨g, n * 2, none⟩), .iface T V] 213)).alloc (.cells #[.int .i64 0, .int .i64 0, .string ⟨#[]⟩, .int .i64 0, .int .i64 0] 39) = w0 at *
  refine (countCall_c N b g m cap n cv p _ HR.out.st HR.out.hN hi hcr).mono ?_
  rintro e w1 ⟨rfl, hs1, hk1⟩
  replace HR := Lib.hid (HR.out.next hs1 hk1 HU.out rfl (names_upd p n))
  replace L1 := Lib.hid (L1.out.stays hk1 n1b (by decide) (by decide))
  replace L2 := Lib.hid (L2.out.stays hk1 n2b (by decide) (by decide))
  have HK := Lib.hid ((KeptT.of_below (N := N) (b := b) HB.out HN.out).trans hk1)
  clear hs1 hk1
  have B_a := Lib.hid L1.out.bx
  have a0 := B_a.out.cell 0 (by simp)
  have a1 := B_a.out.cell 1 (by simp)
  simp only [List.getElem_cons_zero, List.getElem_cons_succ] at a0 a1
  have fa0 := B_a.out.froz 0 (by simp)
  have fa1 := B_a.out.froz 1 (by simp)
  have l_a := B_a.out.lt
  go_wp2_with fail
  clear B_a l_a a0 a1 fa0 fa1
  refine (HO.out _ _ HR.out).mono ?_
  rintro e w2 ⟨rfl, cv2, hs2, hk2⟩
  replace L2 := Lib.hid (L2.out.stays hk2 n2b (by decide) (by decide))
  have HK2 := Lib.hid (HK.out.trans hk2)
  have HS := Lib.hid hs2
  clear hs2 hk2
  unfold vReply
  simp only
  have B_r := Lib.hid L2.out.bx
  have r0 := B_r.out.cell 0 (by simp)
  have r1 := B_r.out.cell 1 (by simp)
  have r2 := B_r.out.cell 2 (by simp)
  have r3 := B_r.out.cell 3 (by simp)
  have r4 := B_r.out.cell 4 (by simp)
  simp only [List.getElem_cons_zero, List.getElem_cons_succ] at r0 r1 r2 r3 r4
  have fr0 := B_r.out.froz 0 (by simp)
  have fr1 := B_r.out.froz 1 (by simp)
  have fr2 := B_r.out.froz 2 (by simp)
  have fr3 := B_r.out.froz 3 (by simp)
  have fr4 := B_r.out.froz 4 (by simp)
  have l_r := B_r.out.lt
  go_wp2_with fail
  refine bodyPost_ret (v := .agg #[.int .i64 t0, .int .i64 t1, .string ⟨t2.toArray⟩, .int .i64 t3, .int .i64 t4]) (by simp [results, Tryz.results233, go_sem, cell_set_at, cell_set_ne, r0, r1, r2, r3, r4]) rfl ?_
  exact done5 ⟨t0, t1, t2, t3, t4⟩ HS.out HK2.out L2.out n2b (by omega) HN.out _ _ _ _ _
set_option maxRecDepth 100000 in
set_option maxHeartbeats 3200000 in
theorem counts_Tell (mx : Int) (N b g m cap n : Nat) (k0 : List UInt8) (nms : List (List UInt8)) (T : TypeId) (V : Value) (x : CallD) (hx : x.fMethod = mTell) (hn : n < nms.length) (hn3 : n < 3) (hnm : nms.getD n [] = nCounts)
  (p : PartD) (cv : Value) (w : World) (hR : Ready mx N b (.slice (some ⟨g, 0, none⟩) m cap) cv k0 nms p w) :
  Calls Tryz.prog 234 #[.agg #[.pointer (some ⟨g, n * 2, none⟩), .iface T V]] w fun e w' => Does4 N b (.slice (some ⟨g, 0, none⟩) m cap) (lyDo (n + 1) p x) w e w' := by
 have hpl := hR.len
 have hi : n < p.fLayers.length := by omega
 have hnmp : nmL p n = nCounts := (hR.nm n).trans hnm
 have hbl := hR.st.core.box.lt
 have HL := Lib.hid (show lyDo (n + 1) p x = (p, ⟨0, cntL p n, [], 0, 0⟩) from by show (if _ then _ else _) = _; rw [if_pos ⟨hnmp, hx⟩])
 rw [HL.out]
 clear HL
 have L1 := Lib.hid ((Loc.new w [.pointer (some ⟨g, n * 2, none⟩), .iface T V] 213).past (.cells #[.int .i64 0, .int .i64 0, .string ⟨#[]⟩, .int .i64 0, .int .i64 0] 39))
 have L2 := Lib.hid (Loc.new (w.alloc (.cells #[.pointer (some ⟨g, n * 2, none⟩), .iface T V] 213)) [.int .i64 0, .int .i64 0, .string ⟨#[]⟩, .int .i64 0, .int .i64 0] 39)
 have HB := Lib.hid (belS (bx_box w (.cells #[.pointer (some ⟨g, n * 2, none⟩), .iface T V] 213)) (bx_box (w.alloc (.cells #[.pointer (some ⟨g, n * 2, none⟩), .iface T V] 213)) (.cells #[.int .i64 0, .int .i64 0, .string ⟨#[]⟩, .int .i64 0, .int .i64 0] 39)))
 rw [show (w.alloc (.cells #[.pointer (some ⟨g, n * 2, none⟩), .iface T V] 213)).heap.size = w.heap.size + 1 by simp] at L2
 have n1b : w.heap.size ≠ b := by omega
 have n2b : w.heap.size + 1 ≠ b := by omega
 have HR := Lib.hid (hR.below HB.out)
 have HN := Lib.hid hR.hN
 clear hR
 have HLY := Lib.hid (HR.out.st.lay n hi)
 obtain ⟨_, d1, _, hgl, _, hm0, _⟩ := HLY.out
 clear hm0 HLY
 generalize cntL p n = ct at *
 go_enter Tryz.func234, Tryz.ntmps234
 go_upto_region 1 with fail
 generalize (w.alloc (.cells #[.pointer (some ⟨g, n * 2, none⟩), .iface T V] 213)).alloc (.cells #[.int .i64 0, .int .i64 0, .string ⟨#[]⟩, .int .i64 0, .int .i64 0] 39) = w0 at *
 have B_a := Lib.hid L1.out.bx
 have a0 := B_a.out.cell 0 (by simp)
 have a1 := B_a.out.cell 1 (by simp)
 simp only [List.getElem_cons_zero, List.getElem_cons_succ] at a0 a1
 have fa0 := B_a.out.froz 0 (by simp)
 have fa1 := B_a.out.froz 1 (by simp)
 have l_a := B_a.out.lt
 have B_r := Lib.hid L2.out.bx
 have r0 := B_r.out.cell 0 (by simp)
 have r1 := B_r.out.cell 1 (by simp)
 have r2 := B_r.out.cell 2 (by simp)
 have r3 := B_r.out.cell 3 (by simp)
 have r4 := B_r.out.cell 4 (by simp)
 simp only [List.getElem_cons_zero, List.getElem_cons_succ] at r0 r1 r2 r3 r4
 have fr0 := B_r.out.froz 0 (by simp)
 have fr1 := B_r.out.froz 1 (by simp)
 have fr2 := B_r.out.froz 2 (by simp)
 have fr3 := B_r.out.froz 3 (by simp)
 have fr4 := B_r.out.froz 4 (by simp)
 have l_r := B_r.out.lt
 go_wp2_with fail
 refine bodyPost_ret (v := .agg #[.int .i64 0, .int .i64 ct, .string ⟨#[]⟩, .int .i64 0, .int .i64 0]) (by simp [results, Tryz.results234, go_sem, cell_set_at, cell_set_ne, r0, r1, r2, r3, r4]) rfl ?_
 exact done5 ⟨0, ct, [], 0, 0⟩ HR.out.st (KeptT.of_below HB.out HN.out) L2.out n2b (by omega) HN.out _ _ _ _ _
set_option maxRecDepth 100000 in
set_option maxHeartbeats 3200000 in
theorem reads_Put (mx : Int) (N b g m cap n : Nat) (k0 : List UInt8) (nms : List (List UInt8)) (T : TypeId) (V : Value) (x : CallD) (key : List UInt8) (val : Int) (hx : x.fMethod = mPut) (hn : n < nms.length) (hn3 : n < 3) (hnm : nms.getD n [] = nReads)
  (p : PartD) (cv : Value) (w : World) (hR : Ready mx N b (.slice (some ⟨g, 0, none⟩) m cap) cv k0 nms p w) :
  Calls Tryz.prog 237 #[.agg #[.pointer (some ⟨g, n * 2, none⟩), .iface T V], .string ⟨key.toArray⟩, .int .i64 val] w fun e w' => Does4 N b (.slice (some ⟨g, 0, none⟩) m cap) (lyDo (n + 1) p x) w e w' := by
 have hpl := hR.len
 have hi : n < p.fLayers.length := by omega
 have hnmp : nmL p n = nReads := (hR.nm n).trans hnm
 have hbl := hR.st.core.box.lt
 have HL := Lib.hid (show lyDo (n + 1) p x = (p, rC 6) from by show (if _ then _ else if _ then _ else if _ then _ else if _ then _ else _) = _; rw [if_neg (fun h => by rw [hnmp] at h; exact absurd h.1 (by decide)), if_neg (fun h => by rw [hnmp] at h; exact absurd h.1 (by decide)), if_neg (fun h => by rw [hnmp] at h; exact absurd h.1 (by decide)), if_pos ⟨hnmp, hx⟩])
 rw [HL.out]
 clear HL
 have L1 := Lib.hid ((Loc.new w [.pointer (some ⟨g, n * 2, none⟩), .iface T V] 218).past (.cells #[.int .i64 0, .int .i64 0, .string ⟨#[]⟩, .int .i64 0, .int .i64 0] 39))
 have L2 := Lib.hid (Loc.new (w.alloc (.cells #[.pointer (some ⟨g, n * 2, none⟩), .iface T V] 218)) [.int .i64 0, .int .i64 0, .string ⟨#[]⟩, .int .i64 0, .int .i64 0] 39)
 have HB := Lib.hid (belS (bx_box w (.cells #[.pointer (some ⟨g, n * 2, none⟩), .iface T V] 218)) (bx_box (w.alloc (.cells #[.pointer (some ⟨g, n * 2, none⟩), .iface T V] 218)) (.cells #[.int .i64 0, .int .i64 0, .string ⟨#[]⟩, .int .i64 0, .int .i64 0] 39)))
 rw [show (w.alloc (.cells #[.pointer (some ⟨g, n * 2, none⟩), .iface T V] 218)).heap.size = w.heap.size + 1 by simp] at L2
 have n1b : w.heap.size ≠ b := by omega
 have n2b : w.heap.size + 1 ≠ b := by omega
 have HR := Lib.hid (hR.below HB.out)
 have HN := Lib.hid hR.hN
 clear hR
 go_enter Tryz.func237, Tryz.ntmps237
 go_upto_region 1 with fail
 generalize (w.alloc (.cells #[.pointer (some ⟨g, n * 2, none⟩), .iface T V] 218)).alloc (.cells #[.int .i64 0, .int .i64 0, .string ⟨#[]⟩, .int .i64 0, .int .i64 0] 39) = w0 at *
 have B_r := Lib.hid L2.out.bx
 have r0 := B_r.out.cell 0 (by simp)
 have r1 := B_r.out.cell 1 (by simp)
 have r2 := B_r.out.cell 2 (by simp)
 have r3 := B_r.out.cell 3 (by simp)
 have r4 := B_r.out.cell 4 (by simp)
 simp only [List.getElem_cons_zero, List.getElem_cons_succ] at r0 r1 r2 r3 r4
 have fr0 := B_r.out.froz 0 (by simp)
 have fr1 := B_r.out.froz 1 (by simp)
 have fr2 := B_r.out.froz 2 (by simp)
 have fr3 := B_r.out.froz 3 (by simp)
 have fr4 := B_r.out.froz 4 (by simp)
 have l_r := B_r.out.lt
 go_wp2_with fail
 refine bodyPost_ret (v := .agg #[.int .i64 6, .int .i64 0, .string ⟨#[]⟩, .int .i64 0, .int .i64 0]) (by simp [results, Tryz.results237, go_sem, cell_set_at, cell_set_ne, r0, r1, r2, r3, r4]) rfl ?_
 exact done5 (rC 6) HR.out.st (KeptT.of_below HB.out HN.out) L2.out n2b (by omega) HN.out _ _ _ _ _
set_option maxRecDepth 100000 in
set_option maxHeartbeats 3200000 in
theorem lazy_Get (mx : Int) (N b g m cap n : Nat) (k0 : List UInt8) (nms : List (List UInt8)) (T : TypeId) (V : Value) (x : CallD) (key : List UInt8) (hx : keptB x.fMethod = true) (hn : n < nms.length) (hn3 : n < 3) (hnm : nms.getD n [] = nLazy) (HI : MthOk mx N b (.slice (some ⟨g, 0, none⟩) m cap) k0 nms n FsGet T V "Get" #[.string ⟨key.toArray⟩] x) (HS : MthOk mx N b (.slice (some ⟨g, 0, none⟩) m cap) k0 nms n FsStart T V "Start" #[] (cX mStart))
  (p : PartD) (cv : Value) (w : World) (hR : Ready mx N b (.slice (some ⟨g, 0, none⟩) m cap) cv k0 nms p w) :
  Calls Tryz.prog 235 #[.agg #[.pointer (some ⟨g, n * 2, none⟩), .iface T V], .string ⟨key.toArray⟩] w fun e w' => Does4 N b (.slice (some ⟨g, 0, none⟩) m cap) (lyDo (n + 1) p x) w e w' := by
 have hpl := hR.len
 have hi : n < p.fLayers.length := by omega
 have hnmp : nmL p n = nLazy := (hR.nm n).trans hnm
 have hbl := hR.st.core.box.lt
 have HL := Lib.hid (show lyDo (n + 1) p x = if (lyDo n p x).2.fCode = 2 then lyDo n (lyDo n (lyDo n p x).1 (cX mStart)).1 x else lyDo n p x from by show (if _ then _ else if _ then _ else if _ then _ else _) = _; rw [if_neg (fun h => by rw [hnmp] at h; exact absurd h.1 (by decide)), if_neg (fun h => by rw [hnmp] at h; exact absurd h.1 (by decide)), if_pos ⟨hnmp, hx⟩])
 rw [HL.out]
 clear HL
 obtain ⟨IF, Ir, If, Im, In, Ic⟩ := HI
 have Im4 : ∀ (fuel : Nat) (w : World), (method (fuel + 4) T V _).run Tryz.prog w = .ok (IF, Ir) w := fun fuel w => by have h := Im (fuel + 3 - n) w; rwa [show fuel + 3 - n + n + 1 = fuel + 4 by omega] at h
 have In4 : ∀ (fuel : Nat) (w : World), (nilAhead (fuel + 4) T V _).run Tryz.prog w = .ok (some false) w := fun fuel w => by have h := In (fuel + 3 - n) w; rwa [show fuel + 3 - n + n + 1 = fuel + 4 by omega] at h
 have IC := Lib.hid Ic
 clear Im In Ic
 obtain ⟨SF, Sr, Sf, Sm, Sn, Sc⟩ := HS
 have Sm4 : ∀ (fuel : Nat) (w : World), (method (fuel + 4) T V _).run Tryz.prog w = .ok (SF, Sr) w := fun fuel w => by have h := Sm (fuel + 3 - n) w; rwa [show fuel + 3 - n + n + 1 = fuel + 4 by omega] at h
 have Sn4 : ∀ (fuel : Nat) (w : World), (nilAhead (fuel + 4) T V _).run Tryz.prog w = .ok (some false) w := fun fuel w => by have h := Sn (fuel + 3 - n) w; rwa [show fuel + 3 - n + n + 1 = fuel + 4 by omega] at h
 have SC := Lib.hid Sc
 clear Sm Sn Sc
 have L1 := Lib.hid ((Loc.new w [.pointer (some ⟨g, n * 2, none⟩), .iface T V] 217).past (.cells #[.int .i64 0, .int .i64 0, .string ⟨#[]⟩, .int .i64 0, .int .i64 0] 39))
 have L2 := Lib.hid (Loc.new (w.alloc (.cells #[.pointer (some ⟨g, n * 2, none⟩), .iface T V] 217)) [.int .i64 0, .int .i64 0, .string ⟨#[]⟩, .int .i64 0, .int .i64 0] 39)
 have HB := Lib.hid (belS (bx_box w (.cells #[.pointer (some ⟨g, n * 2, none⟩), .iface T V] 217)) (bx_box (w.alloc (.cells #[.pointer (some ⟨g, n * 2, none⟩), .iface T V] 217)) (.cells #[.int .i64 0, .int .i64 0, .string ⟨#[]⟩, .int .i64 0, .int .i64 0] 39)))
 rw [show (w.alloc (.cells #[.pointer (some ⟨g, n * 2, none⟩), .iface T V] 217)).heap.size = w.heap.size + 1 by simp] at L2
 have n1b : w.heap.size ≠ b := by omega
 have n2b : w.heap.size + 1 ≠ b := by omega
 have HR := Lib.hid (hR.below HB.out)
 have HN := Lib.hid hR.hN
 have HP1 := Lib.hid (lyDo_part n p x (by omega) hR.ok)
 have HN1 := Lib.hid (lyDo_names n p x)
 have HLn := Lib.hid (lyDo_len n p x)
 clear hR
 have HO := Lib.hid (IC.out p)
 generalize lyDo n p x = out at *
 obtain ⟨q, t0, t1, t2, t3, t4⟩ := out
 simp only at HP1 HN1 HLn
 simp only [List.mem_cons, List.not_mem_nil, or_false] at If Sf
 subst Sf
 by_cases h2 : t0 = 2
 ·subst h2
  rw [if_pos rfl]
  have HP2 := Lib.hid (lyDo_part n q (cX mStart) (by have := HLn.out; omega) HP1.out)
  have HN2 := Lib.hid (lyDo_names n q (cX mStart))
  have HO2 := Lib.hid (SC.out q)
  have HO3 := Lib.hid (IC.out (lyDo n q (cX mStart)).1)
  generalize lyDo n q (cX mStart) = out2 at *
  obtain ⟨q2, s0, s1, s2, s3, s4⟩ := out2
  simp only at HP2 HN2 HO3 ⊢
  generalize lyDo n q2 x = out3 at *
  obtain ⟨q3, v0, v1, v2, v3, v4⟩ := out3
  rcases If with rfl | rfl | rfl
  all_goals
   go_enter Tryz.func235, Tryz.ntmps235
   have B_a := Lib.hid L1.out.bx
   have a0 := B_a.out.cell 0 (by simp)
   have a1 := B_a.out.cell 1 (by simp)
   simp only [List.getElem_cons_zero, List.getElem_cons_succ] at a0 a1
   have fa0 := B_a.out.froz 0 (by simp)
   have fa1 := B_a.out.froz 1 (by simp)
   have l_a := B_a.out.lt
   go_wp2_with fail
   clear B_a l_a a0 a1 fa0 fa1
   generalize (w.alloc (.cells #[.pointer (some ⟨g, n * 2, none⟩), .iface T V] 217)).alloc (.cells #[.int .i64 0, .int .i64 0, .string ⟨#[]⟩, .int .i64 0, .int .i64 0] 39) = w0 at *
   refine (HO.out _ _ HR.out).mono ?_
   rintro e w1 ⟨rfl, cv1, hs1, hk1⟩
   simp only at hs1 ⊢
   replace HR := Lib.hid (HR.out.next hs1 hk1 HP1.out HN1.out.2 HN1.out.1)
   replace L1 := Lib.hid (L1.out.stays hk1 n1b (by decide) (by decide))
   replace L2 := Lib.hid (L2.out.stays hk1 n2b (by decide) (by decide))
   have HK := Lib.hid ((KeptT.of_below (N := N) (b := b) HB.out HN.out).trans hk1)
   clear hs1 hk1
   unfold vReply
   simp only
   have h1l := L2.out.bx.lt
   have L3 := Lib.hid (Loc.new w1 [.int .i64 2, .int .i64 t1, .string ⟨t2.toArray⟩, .int .i64 t3, .int .i64 t4] 39)
   have hbz := bx_box w1 (.cells #[.int .i64 2, .int .i64 t1, .string ⟨t2.toArray⟩, .int .i64 t3, .int .i64 t4] 39)
   have n3b : w1.heap.size ≠ b := by have := HR.out.st.core.box.lt; omega
   replace HR := Lib.hid (HR.out.below hbz)
   replace L1 := Lib.hid (L1.out.below hbz)
   replace L2 := Lib.hid (L2.out.below hbz)
   replace HK := Lib.hid (HK.out.below hbz HN.out)
   clear hbz
   go_upto_region 2 with fail
   generalize w1.alloc (.cells #[.int .i64 2, .int .i64 t1, .string ⟨t2.toArray⟩, .int .i64 t3, .int .i64 t4] 39) = w2 at *
   generalize w1.heap.size = n3 at *
   have B_e := Lib.hid L3.out.bx
   have e0 := B_e.out.cell 0 (by simp)
   have e1 := B_e.out.cell 1 (by simp)
   have e2 := B_e.out.cell 2 (by simp)
   have e3 := B_e.out.cell 3 (by simp)
   have e4 := B_e.out.cell 4 (by simp)
   simp only [List.getElem_cons_zero, List.getElem_cons_succ] at e0 e1 e2 e3 e4
   have fe0 := B_e.out.froz 0 (by simp)
   have fe1 := B_e.out.froz 1 (by simp)
   have fe2 := B_e.out.froz 2 (by simp)
   have fe3 := B_e.out.froz 3 (by simp)
   have fe4 := B_e.out.froz 4 (by simp)
   have l_e := B_e.out.lt
   have B_a := Lib.hid L1.out.bx
   have a0 := B_a.out.cell 0 (by simp)
   have a1 := B_a.out.cell 1 (by simp)
   simp only [List.getElem_cons_zero, List.getElem_cons_succ] at a0 a1
   have fa0 := B_a.out.froz 0 (by simp)
   have fa1 := B_a.out.froz 1 (by simp)
   have l_a := B_a.out.lt
   go_wp2_with fail
   clear B_a l_a a0 a1 fa0 fa1
   clear e0 e1 e2 e3 e4 fe0 fe1 fe2 fe3 fe4 B_e l_e L3
   refine (HO2.out _ _ HR.out).mono ?_
   rintro e w3 ⟨rfl, cv3, hs3, hk3⟩
   simp only at hs3 ⊢
   replace HR := Lib.hid (HR.out.next hs3 hk3 HP2.out HN2.out.2 HN2.out.1)
   replace L1 := Lib.hid (L1.out.stays hk3 n1b (by decide) (by decide))
   replace L2 := Lib.hid (L2.out.stays hk3 n2b (by decide) (by decide))
   replace HK := Lib.hid (HK.out.trans hk3)
   clear hs3 hk3
   unfold vReply
   simp only
   have B_a := Lib.hid L1.out.bx
   have a0 := B_a.out.cell 0 (by simp)
   have a1 := B_a.out.cell 1 (by simp)
   simp only [List.getElem_cons_zero, List.getElem_cons_succ] at a0 a1
   have fa0 := B_a.out.froz 0 (by simp)
   have fa1 := B_a.out.froz 1 (by simp)
   have l_a := B_a.out.lt
   go_wp2_with fail
   clear B_a l_a a0 a1 fa0 fa1
   refine (HO3.out _ _ HR.out).mono ?_
   rintro e w4 ⟨rfl, cv4, hs4, hk4⟩
   simp only at hs4 ⊢
   replace L2 := Lib.hid (L2.out.stays hk4 n2b (by decide) (by decide))
   replace HK := Lib.hid (HK.out.trans hk4)
   have HS := Lib.hid hs4
   clear hs4 hk4
   unfold vReply
   simp only
   have B_r := Lib.hid L2.out.bx
   have r0 := B_r.out.cell 0 (by simp)
   have r1 := B_r.out.cell 1 (by simp)
   have r2 := B_r.out.cell 2 (by simp)
   have r3 := B_r.out.cell 3 (by simp)
   have r4 := B_r.out.cell 4 (by simp)
   simp only [List.getElem_cons_zero, List.getElem_cons_succ] at r0 r1 r2 r3 r4
   have fr0 := B_r.out.froz 0 (by simp)
   have fr1 := B_r.out.froz 1 (by simp)
   have fr2 := B_r.out.froz 2 (by simp)
   have fr3 := B_r.out.froz 3 (by simp)
   have fr4 := B_r.out.froz 4 (by simp)
   have l_r := B_r.out.lt
   go_wp2_with fail
   refine bodyPost_ret (v := .agg #[.int .i64 v0, .int .i64 v1, .string ⟨v2.toArray⟩, .int .i64 v3, .int .i64 v4]) (by simp [results, Tryz.results235, go_sem, cell_set_at, cell_set_ne, r0, r1, r2, r3, r4]) rfl ?_
   exact done5 ⟨v0, v1, v2, v3, v4⟩ HS.out HK.out L2.out n2b (by omega) HN.out _ _ _ _ _
 ·have h2b : (t0 != 2) = true := by simpa using h2
  rw [if_neg h2]
  rcases If with rfl | rfl | rfl
  all_goals
   go_enter Tryz.func235, Tryz.ntmps235
   have B_a := Lib.hid L1.out.bx
   have a0 := B_a.out.cell 0 (by simp)
   have a1 := B_a.out.cell 1 (by simp)
   simp only [List.getElem_cons_zero, List.getElem_cons_succ] at a0 a1
   have fa0 := B_a.out.froz 0 (by simp)
   have fa1 := B_a.out.froz 1 (by simp)
   have l_a := B_a.out.lt
   go_wp2_with fail
   clear B_a l_a a0 a1 fa0 fa1
   generalize (w.alloc (.cells #[.pointer (some ⟨g, n * 2, none⟩), .iface T V] 217)).alloc (.cells #[.int .i64 0, .int .i64 0, .string ⟨#[]⟩, .int .i64 0, .int .i64 0] 39) = w0 at *
   refine (HO.out _ _ HR.out).mono ?_
   rintro e w1 ⟨rfl, cv1, hs1, hk1⟩
   simp only at hs1 ⊢
   replace HR := Lib.hid (HR.out.next hs1 hk1 HP1.out HN1.out.2 HN1.out.1)
   replace L1 := Lib.hid (L1.out.stays hk1 n1b (by decide) (by decide))
   replace L2 := Lib.hid (L2.out.stays hk1 n2b (by decide) (by decide))
   have HK := Lib.hid ((KeptT.of_below (N := N) (b := b) HB.out HN.out).trans hk1)
   clear hs1 hk1
   unfold vReply
   simp only
   have h1l := L2.out.bx.lt
   have L3 := Lib.hid (Loc.new w1 [.int .i64 t0, .int .i64 t1, .string ⟨t2.toArray⟩, .int .i64 t3, .int .i64 t4] 39)
   have hbz := bx_box w1 (.cells #[.int .i64 t0, .int .i64 t1, .string ⟨t2.toArray⟩, .int .i64 t3, .int .i64 t4] 39)
   have n3b : w1.heap.size ≠ b := by have := HR.out.st.core.box.lt; omega
   replace HR := Lib.hid (HR.out.below hbz)
   replace L1 := Lib.hid (L1.out.below hbz)
   replace L2 := Lib.hid (L2.out.below hbz)
   replace HK := Lib.hid (HK.out.below hbz HN.out)
   clear hbz
   go_upto_region 2 with fail
   generalize w1.alloc (.cells #[.int .i64 t0, .int .i64 t1, .string ⟨t2.toArray⟩, .int .i64 t3, .int .i64 t4] 39) = w2 at *
   generalize w1.heap.size = n3 at *
   have B_e := Lib.hid L3.out.bx
   have e0 := B_e.out.cell 0 (by simp)
   have e1 := B_e.out.cell 1 (by simp)
   have e2 := B_e.out.cell 2 (by simp)
   have e3 := B_e.out.cell 3 (by simp)
   have e4 := B_e.out.cell 4 (by simp)
   simp only [List.getElem_cons_zero, List.getElem_cons_succ] at e0 e1 e2 e3 e4
   have fe0 := B_e.out.froz 0 (by simp)
   have fe1 := B_e.out.froz 1 (by simp)
   have fe2 := B_e.out.froz 2 (by simp)
   have fe3 := B_e.out.froz 3 (by simp)
   have fe4 := B_e.out.froz 4 (by simp)
   have l_e := B_e.out.lt
   have B_r := Lib.hid L2.out.bx
   have r0 := B_r.out.cell 0 (by simp)
   have r1 := B_r.out.cell 1 (by simp)
   have r2 := B_r.out.cell 2 (by simp)
   have r3 := B_r.out.cell 3 (by simp)
   have r4 := B_r.out.cell 4 (by simp)
   simp only [List.getElem_cons_zero, List.getElem_cons_succ] at r0 r1 r2 r3 r4
   have fr0 := B_r.out.froz 0 (by simp)
   have fr1 := B_r.out.froz 1 (by simp)
   have fr2 := B_r.out.froz 2 (by simp)
   have fr3 := B_r.out.froz 3 (by simp)
   have fr4 := B_r.out.froz 4 (by simp)
   have l_r := B_r.out.lt
   go_wp2_with fail
   refine bodyPost_ret (v := .agg #[.int .i64 t0, .int .i64 t1, .string ⟨t2.toArray⟩, .int .i64 t3, .int .i64 t4]) (by simp [results, Tryz.results235, go_sem, cell_set_at, cell_set_ne, r0, r1, r2, r3, r4]) rfl ?_
   exact done5 ⟨t0, t1, t2, t3, t4⟩ HR.out.st HK.out L2.out n2b (by omega) HN.out _ _ _ _ _
set_option maxRecDepth 100000 in
set_option maxHeartbeats 3200000 in
theorem lazy_Put (mx : Int) (N b g m cap n : Nat) (k0 : List UInt8) (nms : List (List UInt8)) (T : TypeId) (V : Value) (x : CallD) (key : List UInt8) (val : Int) (hx : keptB x.fMethod = true) (hn : n < nms.length) (hn3 : n < 3) (hnm : nms.getD n [] = nLazy) (HI : MthOk mx N b (.slice (some ⟨g, 0, none⟩) m cap) k0 nms n FsPut T V "Put" #[.string ⟨key.toArray⟩, .int .i64 val] x) (HS : MthOk mx N b (.slice (some ⟨g, 0, none⟩) m cap) k0 nms n FsStart T V "Start" #[] (cX mStart))
  (p : PartD) (cv : Value) (w : World) (hR : Ready mx N b (.slice (some ⟨g, 0, none⟩) m cap) cv k0 nms p w) :
  Calls Tryz.prog 236 #[.agg #[.pointer (some ⟨g, n * 2, none⟩), .iface T V], .string ⟨key.toArray⟩, .int .i64 val] w fun e w' => Does4 N b (.slice (some ⟨g, 0, none⟩) m cap) (lyDo (n + 1) p x) w e w' := by
 have hpl := hR.len
 have hi : n < p.fLayers.length := by omega
 have hnmp : nmL p n = nLazy := (hR.nm n).trans hnm
 have hbl := hR.st.core.box.lt
 have HL := Lib.hid (show lyDo (n + 1) p x = if (lyDo n p x).2.fCode = 2 then lyDo n (lyDo n (lyDo n p x).1 (cX mStart)).1 x else lyDo n p x from by show (if _ then _ else if _ then _ else if _ then _ else _) = _; rw [if_neg (fun h => by rw [hnmp] at h; exact absurd h.1 (by decide)), if_neg (fun h => by rw [hnmp] at h; exact absurd h.1 (by decide)), if_pos ⟨hnmp, hx⟩])
 rw [HL.out]
 clear HL
 obtain ⟨IF, Ir, If, Im, In, Ic⟩ := HI
 have Im4 : ∀ (fuel : Nat) (w : World), (method (fuel + 4) T V _).run Tryz.prog w = .ok (IF, Ir) w := fun fuel w => by have h := Im (fuel + 3 - n) w; rwa [show fuel + 3 - n + n + 1 = fuel + 4 by omega] at h
 have In4 : ∀ (fuel : Nat) (w : World), (nilAhead (fuel + 4) T V _).run Tryz.prog w = .ok (some false) w := fun fuel w => by have h := In (fuel + 3 - n) w; rwa [show fuel + 3 - n + n + 1 = fuel + 4 by omega] at h
 have IC := Lib.hid Ic
 clear Im In Ic
 obtain ⟨SF, Sr, Sf, Sm, Sn, Sc⟩ := HS
 have Sm4 : ∀ (fuel : Nat) (w : World), (method (fuel + 4) T V _).run Tryz.prog w = .ok (SF, Sr) w := fun fuel w => by have h := Sm (fuel + 3 - n) w; rwa [show fuel + 3 - n + n + 1 = fuel + 4 by omega] at h
 have Sn4 : ∀ (fuel : Nat) (w : World), (nilAhead (fuel + 4) T V _).run Tryz.prog w = .ok (some false) w := fun fuel w => by have h := Sn (fuel + 3 - n) w; rwa [show fuel + 3 - n + n + 1 = fuel + 4 by omega] at h
 have SC := Lib.hid Sc
 clear Sm Sn Sc
 have L1 := Lib.hid ((Loc.new w [.pointer (some ⟨g, n * 2, none⟩), .iface T V] 217).past (.cells #[.int .i64 0, .int .i64 0, .string ⟨#[]⟩, .int .i64 0, .int .i64 0] 39))
 have L2 := Lib.hid (Loc.new (w.alloc (.cells #[.pointer (some ⟨g, n * 2, none⟩), .iface T V] 217)) [.int .i64 0, .int .i64 0, .string ⟨#[]⟩, .int .i64 0, .int .i64 0] 39)
 have HB := Lib.hid (belS (bx_box w (.cells #[.pointer (some ⟨g, n * 2, none⟩), .iface T V] 217)) (bx_box (w.alloc (.cells #[.pointer (some ⟨g, n * 2, none⟩), .iface T V] 217)) (.cells #[.int .i64 0, .int .i64 0, .string ⟨#[]⟩, .int .i64 0, .int .i64 0] 39)))
 rw [show (w.alloc (.cells #[.pointer (some ⟨g, n * 2, none⟩), .iface T V] 217)).heap.size = w.heap.size + 1 by simp] at L2
 have n1b : w.heap.size ≠ b := by omega
 have n2b : w.heap.size + 1 ≠ b := by omega
 have HR := Lib.hid (hR.below HB.out)
 have HN := Lib.hid hR.hN
 have HP1 := Lib.hid (lyDo_part n p x (by omega) hR.ok)
 have HN1 := Lib.hid (lyDo_names n p x)
 have HLn := Lib.hid (lyDo_len n p x)
 clear hR
 have HO := Lib.hid (IC.out p)
 generalize lyDo n p x = out at *
 obtain ⟨q, t0, t1, t2, t3, t4⟩ := out
 simp only at HP1 HN1 HLn
 simp only [List.mem_cons, List.not_mem_nil, or_false] at If Sf
 subst Sf
 by_cases h2 : t0 = 2
 ·subst h2
  rw [if_pos rfl]
  have HP2 := Lib.hid (lyDo_part n q (cX mStart) (by have := HLn.out; omega) HP1.out)
  have HN2 := Lib.hid (lyDo_names n q (cX mStart))
  have HO2 := Lib.hid (SC.out q)
  have HO3 := Lib.hid (IC.out (lyDo n q (cX mStart)).1)
  generalize lyDo n q (cX mStart) = out2 at *
  obtain ⟨q2, s0, s1, s2, s3, s4⟩ := out2
  simp only at HP2 HN2 HO3 ⊢
  generalize lyDo n q2 x = out3 at *
  obtain ⟨q3, v0, v1, v2, v3, v4⟩ := out3
  rcases If with rfl | rfl | rfl | rfl
  all_goals
   go_enter Tryz.func236, Tryz.ntmps236
   have B_a := Lib.hid L1.out.bx
   have a0 := B_a.out.cell 0 (by simp)
   have a1 := B_a.out.cell 1 (by simp)
   simp only [List.getElem_cons_zero, List.getElem_cons_succ] at a0 a1
   have fa0 := B_a.out.froz 0 (by simp)
   have fa1 := B_a.out.froz 1 (by simp)
   have l_a := B_a.out.lt
   go_wp2_with fail
   clear B_a l_a a0 a1 fa0 fa1
   generalize (w.alloc (.cells #[.pointer (some ⟨g, n * 2, none⟩), .iface T V] 217)).alloc (.cells #[.int .i64 0, .int .i64 0, .string ⟨#[]⟩, .int .i64 0, .int .i64 0] 39) = w0 at *
   refine (HO.out _ _ HR.out).mono ?_
   rintro e w1 ⟨rfl, cv1, hs1, hk1⟩
   simp only at hs1 ⊢
   replace HR := Lib.hid (HR.out.next hs1 hk1 HP1.out HN1.out.2 HN1.out.1)
   replace L1 := Lib.hid (L1.out.stays hk1 n1b (by decide) (by decide))
   replace L2 := Lib.hid (L2.out.stays hk1 n2b (by decide) (by decide))
   have HK := Lib.hid ((KeptT.of_below (N := N) (b := b) HB.out HN.out).trans hk1)
   clear hs1 hk1
   unfold vReply
   simp only
   have h1l := L2.out.bx.lt
   have L3 := Lib.hid (Loc.new w1 [.int .i64 2, .int .i64 t1, .string ⟨t2.toArray⟩, .int .i64 t3, .int .i64 t4] 39)
   have hbz := bx_box w1 (.cells #[.int .i64 2, .int .i64 t1, .string ⟨t2.toArray⟩, .int .i64 t3, .int .i64 t4] 39)
   have n3b : w1.heap.size ≠ b := by have := HR.out.st.core.box.lt; omega
   replace HR := Lib.hid (HR.out.below hbz)
   replace L1 := Lib.hid (L1.out.below hbz)
   replace L2 := Lib.hid (L2.out.below hbz)
   replace HK := Lib.hid (HK.out.below hbz HN.out)
   clear hbz
   go_upto_region 2 with fail
   generalize w1.alloc (.cells #[.int .i64 2, .int .i64 t1, .string ⟨t2.toArray⟩, .int .i64 t3, .int .i64 t4] 39) = w2 at *
   generalize w1.heap.size = n3 at *
   have B_e := Lib.hid L3.out.bx
   have e0 := B_e.out.cell 0 (by simp)
   have e1 := B_e.out.cell 1 (by simp)
   have e2 := B_e.out.cell 2 (by simp)
   have e3 := B_e.out.cell 3 (by simp)
   have e4 := B_e.out.cell 4 (by simp)
   simp only [List.getElem_cons_zero, List.getElem_cons_succ] at e0 e1 e2 e3 e4
   have fe0 := B_e.out.froz 0 (by simp)
   have fe1 := B_e.out.froz 1 (by simp)
   have fe2 := B_e.out.froz 2 (by simp)
   have fe3 := B_e.out.froz 3 (by simp)
   have fe4 := B_e.out.froz 4 (by simp)
   have l_e := B_e.out.lt
   have B_a := Lib.hid L1.out.bx
   have a0 := B_a.out.cell 0 (by simp)
   have a1 := B_a.out.cell 1 (by simp)
   simp only [List.getElem_cons_zero, List.getElem_cons_succ] at a0 a1
   have fa0 := B_a.out.froz 0 (by simp)
   have fa1 := B_a.out.froz 1 (by simp)
   have l_a := B_a.out.lt
   go_wp2_with fail
   clear B_a l_a a0 a1 fa0 fa1
   clear e0 e1 e2 e3 e4 fe0 fe1 fe2 fe3 fe4 B_e l_e L3
   refine (HO2.out _ _ HR.out).mono ?_
   rintro e w3 ⟨rfl, cv3, hs3, hk3⟩
   simp only at hs3 ⊢
   replace HR := Lib.hid (HR.out.next hs3 hk3 HP2.out HN2.out.2 HN2.out.1)
   replace L1 := Lib.hid (L1.out.stays hk3 n1b (by decide) (by decide))
   replace L2 := Lib.hid (L2.out.stays hk3 n2b (by decide) (by decide))
   replace HK := Lib.hid (HK.out.trans hk3)
   clear hs3 hk3
   unfold vReply
   simp only
   have B_a := Lib.hid L1.out.bx
   have a0 := B_a.out.cell 0 (by simp)
   have a1 := B_a.out.cell 1 (by simp)
   simp only [List.getElem_cons_zero, List.getElem_cons_succ] at a0 a1
   have fa0 := B_a.out.froz 0 (by simp)
   have fa1 := B_a.out.froz 1 (by simp)
   have l_a := B_a.out.lt
   go_wp2_with fail
   clear B_a l_a a0 a1 fa0 fa1
   refine (HO3.out _ _ HR.out).mono ?_
   rintro e w4 ⟨rfl, cv4, hs4, hk4⟩
   simp only at hs4 ⊢
   replace L2 := Lib.hid (L2.out.stays hk4 n2b (by decide) (by decide))
   replace HK := Lib.hid (HK.out.trans hk4)
   have HS := Lib.hid hs4
   clear hs4 hk4
   unfold vReply
   simp only
   have B_r := Lib.hid L2.out.bx
   have r0 := B_r.out.cell 0 (by simp)
   have r1 := B_r.out.cell 1 (by simp)
   have r2 := B_r.out.cell 2 (by simp)
   have r3 := B_r.out.cell 3 (by simp)
   have r4 := B_r.out.cell 4 (by simp)
   simp only [List.getElem_cons_zero, List.getElem_cons_succ] at r0 r1 r2 r3 r4
   have fr0 := B_r.out.froz 0 (by simp)
   have fr1 := B_r.out.froz 1 (by simp)
   have fr2 := B_r.out.froz 2 (by simp)
   have fr3 := B_r.out.froz 3 (by simp)
   have fr4 := B_r.out.froz 4 (by simp)
   have l_r := B_r.out.lt
   go_wp2_with fail
   refine bodyPost_ret (v := .agg #[.int .i64 v0, .int .i64 v1, .string ⟨v2.toArray⟩, .int .i64 v3, .int .i64 v4]) (by simp [results, Tryz.results236, go_sem, cell_set_at, cell_set_ne, r0, r1, r2, r3, r4]) rfl ?_
   exact done5 ⟨v0, v1, v2, v3, v4⟩ HS.out HK.out L2.out n2b (by omega) HN.out _ _ _ _ _
 ·have h2b : (t0 != 2) = true := by simpa using h2
  rw [if_neg h2]
  rcases If with rfl | rfl | rfl | rfl
  all_goals
   go_enter Tryz.func236, Tryz.ntmps236
   have B_a := Lib.hid L1.out.bx
   have a0 := B_a.out.cell 0 (by simp)
   have a1 := B_a.out.cell 1 (by simp)
   simp only [List.getElem_cons_zero, List.getElem_cons_succ] at a0 a1
   have fa0 := B_a.out.froz 0 (by simp)
   have fa1 := B_a.out.froz 1 (by simp)
   have l_a := B_a.out.lt
   go_wp2_with fail
   clear B_a l_a a0 a1 fa0 fa1
   generalize (w.alloc (.cells #[.pointer (some ⟨g, n * 2, none⟩), .iface T V] 217)).alloc (.cells #[.int .i64 0, .int .i64 0, .string ⟨#[]⟩, .int .i64 0, .int .i64 0] 39) = w0 at *
   refine (HO.out _ _ HR.out).mono ?_
   rintro e w1 ⟨rfl, cv1, hs1, hk1⟩
   simp only at hs1 ⊢
   replace HR := Lib.hid (HR.out.next hs1 hk1 HP1.out HN1.out.2 HN1.out.1)
   replace L1 := Lib.hid (L1.out.stays hk1 n1b (by decide) (by decide))
   replace L2 := Lib.hid (L2.out.stays hk1 n2b (by decide) (by decide))
   have HK := Lib.hid ((KeptT.of_below (N := N) (b := b) HB.out HN.out).trans hk1)
   clear hs1 hk1
   unfold vReply
   simp only
   have h1l := L2.out.bx.lt
   have L3 := Lib.hid (Loc.new w1 [.int .i64 t0, .int .i64 t1, .string ⟨t2.toArray⟩, .int .i64 t3, .int .i64 t4] 39)
   have hbz := bx_box w1 (.cells #[.int .i64 t0, .int .i64 t1, .string ⟨t2.toArray⟩, .int .i64 t3, .int .i64 t4] 39)
   have n3b : w1.heap.size ≠ b := by have := HR.out.st.core.box.lt; omega
   replace HR := Lib.hid (HR.out.below hbz)
   replace L1 := Lib.hid (L1.out.below hbz)
   replace L2 := Lib.hid (L2.out.below hbz)
   replace HK := Lib.hid (HK.out.below hbz HN.out)
   clear hbz
   go_upto_region 2 with fail
   generalize w1.alloc (.cells #[.int .i64 t0, .int .i64 t1, .string ⟨t2.toArray⟩, .int .i64 t3, .int .i64 t4] 39) = w2 at *
   generalize w1.heap.size = n3 at *
   have B_e := Lib.hid L3.out.bx
   have e0 := B_e.out.cell 0 (by simp)
   have e1 := B_e.out.cell 1 (by simp)
   have e2 := B_e.out.cell 2 (by simp)
   have e3 := B_e.out.cell 3 (by simp)
   have e4 := B_e.out.cell 4 (by simp)
   simp only [List.getElem_cons_zero, List.getElem_cons_succ] at e0 e1 e2 e3 e4
   have fe0 := B_e.out.froz 0 (by simp)
   have fe1 := B_e.out.froz 1 (by simp)
   have fe2 := B_e.out.froz 2 (by simp)
   have fe3 := B_e.out.froz 3 (by simp)
   have fe4 := B_e.out.froz 4 (by simp)
   have l_e := B_e.out.lt
   have B_r := Lib.hid L2.out.bx
   have r0 := B_r.out.cell 0 (by simp)
   have r1 := B_r.out.cell 1 (by simp)
   have r2 := B_r.out.cell 2 (by simp)
   have r3 := B_r.out.cell 3 (by simp)
   have r4 := B_r.out.cell 4 (by simp)
   simp only [List.getElem_cons_zero, List.getElem_cons_succ] at r0 r1 r2 r3 r4
   have fr0 := B_r.out.froz 0 (by simp)
   have fr1 := B_r.out.froz 1 (by simp)
   have fr2 := B_r.out.froz 2 (by simp)
   have fr3 := B_r.out.froz 3 (by simp)
   have fr4 := B_r.out.froz 4 (by simp)
   have l_r := B_r.out.lt
   go_wp2_with fail
   refine bodyPost_ret (v := .agg #[.int .i64 t0, .int .i64 t1, .string ⟨t2.toArray⟩, .int .i64 t3, .int .i64 t4]) (by simp [results, Tryz.results236, go_sem, cell_set_at, cell_set_ne, r0, r1, r2, r3, r4]) rfl ?_
   exact done5 ⟨t0, t1, t2, t3, t4⟩ HR.out.st HK.out L2.out n2b (by omega) HN.out _ _ _ _ _
set_option maxRecDepth 100000 in
set_option maxHeartbeats 3200000 in
theorem hears_Hear (mx : Int) (N b g m cap n : Nat) (k0 : List UInt8) (nms : List (List UInt8)) (T : TypeId) (V : Value) (x : CallD) (val : Int) (hx : x.fMethod = mHear) (hxv : x.fValue = val) (hv0 : 0 ≤ val) (hn : n < nms.length) (hn3 : n < 3) (hnm : nms.getD n [] = nHears) (HS : MthOk mx N b (.slice (some ⟨g, 0, none⟩) m cap) k0 nms n FsStart T V "Start" #[] (cX mStart)) (HP : MthOk mx N b (.slice (some ⟨g, 0, none⟩) m cap) k0 nms n FsStop T V "Stop" #[] (cX mStop))
  (p : PartD) (cv : Value) (w : World) (hR : Ready mx N b (.slice (some ⟨g, 0, none⟩) m cap) cv k0 nms p w) :
  Calls Tryz.prog 238 #[.agg #[.pointer (some ⟨g, n * 2, none⟩), .iface T V], .int .i64 val] w fun e w' => Does4 N b (.slice (some ⟨g, 0, none⟩) m cap) (lyDo (n + 1) p x) w e w' := by
 have hpl := hR.len
 have hi : n < p.fLayers.length := by omega
 have hnmp : nmL p n = nHears := (hR.nm n).trans hnm
 have hbl := hR.st.core.box.lt
 have HL := Lib.hid (show lyDo (n + 1) p x = if 1 < val then (updL p n, ⟨0, cntL (updL p n) n, [], 0, 0⟩) else lyDo n (updL p n) (cX (if val = 0 then mStop else mStart)) from by subst hxv; show (if _ then _ else if _ then _ else if _ then _ else if _ then _ else if _ then _ else _) = _; rw [if_neg (fun h => by rw [hnmp] at h; exact absurd h.1 (by decide)), if_neg (fun h => by rw [hnmp] at h; exact absurd h.1 (by decide)), if_neg (fun h => by rw [hnmp] at h; exact absurd h.1 (by decide)), if_neg (fun h => by rw [hnmp] at h; exact absurd h.1 (by decide)), if_pos ⟨hnmp, hx⟩])
 rw [HL.out]
 clear HL
 obtain ⟨SF, Sr, Sf, Sm, Sn, Sc⟩ := HS
 have Sm4 : ∀ (fuel : Nat) (w : World), (method (fuel + 4) T V _).run Tryz.prog w = .ok (SF, Sr) w := fun fuel w => by have h := Sm (fuel + 3 - n) w; rwa [show fuel + 3 - n + n + 1 = fuel + 4 by omega] at h
 have Sn4 : ∀ (fuel : Nat) (w : World), (nilAhead (fuel + 4) T V _).run Tryz.prog w = .ok (some false) w := fun fuel w => by have h := Sn (fuel + 3 - n) w; rwa [show fuel + 3 - n + n + 1 = fuel + 4 by omega] at h
 have SC := Lib.hid Sc
 clear Sm Sn Sc
 obtain ⟨PF, Pr, Pf, Pm, Pn, Pc⟩ := HP
 have Pm4 : ∀ (fuel : Nat) (w : World), (method (fuel + 4) T V _).run Tryz.prog w = .ok (PF, Pr) w := fun fuel w => by have h := Pm (fuel + 3 - n) w; rwa [show fuel + 3 - n + n + 1 = fuel + 4 by omega] at h
 have Pn4 : ∀ (fuel : Nat) (w : World), (nilAhead (fuel + 4) T V _).run Tryz.prog w = .ok (some false) w := fun fuel w => by have h := Pn (fuel + 3 - n) w; rwa [show fuel + 3 - n + n + 1 = fuel + 4 by omega] at h
 have PC := Lib.hid Pc
 clear Pm Pn Pc
 have L1 := Lib.hid ((Loc.new w [.pointer (some ⟨g, n * 2, none⟩), .iface T V] 219).past (.cells #[.int .i64 0, .int .i64 0, .string ⟨#[]⟩, .int .i64 0, .int .i64 0] 39))
 have L2 := Lib.hid (Loc.new (w.alloc (.cells #[.pointer (some ⟨g, n * 2, none⟩), .iface T V] 219)) [.int .i64 0, .int .i64 0, .string ⟨#[]⟩, .int .i64 0, .int .i64 0] 39)
 have HB := Lib.hid (belS (bx_box w (.cells #[.pointer (some ⟨g, n * 2, none⟩), .iface T V] 219)) (bx_box (w.alloc (.cells #[.pointer (some ⟨g, n * 2, none⟩), .iface T V] 219)) (.cells #[.int .i64 0, .int .i64 0, .string ⟨#[]⟩, .int .i64 0, .int .i64 0] 39)))
 rw [show (w.alloc (.cells #[.pointer (some ⟨g, n * 2, none⟩), .iface T V] 219)).heap.size = w.heap.size + 1 by simp] at L2
 have n1b : w.heap.size ≠ b := by omega
 have n2b : w.heap.size + 1 ≠ b := by omega
 have HR := Lib.hid (hR.below HB.out)
 have HN := Lib.hid hR.hN
 have hcr := cnt_range hR.ok n hi
 have HU := Lib.hid (upd_part hR.ok n hi (by rw [hnmp]; exact hears_counted))
 clear hR
 simp only [List.mem_cons, List.not_mem_nil, or_false] at Sf Pf
 subst Sf
 subst Pf
 by_cases h0 : val = 0
 ·subst h0
  rw [if_neg (by decide)]
  have HO := Lib.hid (PC.out (updL p n))
  have HE := Lib.hid (show cX (if (0 : Int) = 0 then mStop else mStart) = (cX mStop) from rfl)
  rw [HE.out]
  clear HE
  generalize lyDo n (updL p n) (cX mStop) = out at *
  obtain ⟨q, t0, t1, t2, t3, t4⟩ := out
  go_enter Tryz.func238, Tryz.ntmps238
  have B_a := Lib.hid L1.out.bx
  have a0 := B_a.out.cell 0 (by simp)
  have a1 := B_a.out.cell 1 (by simp)
  simp only [List.getElem_cons_zero, List.getElem_cons_succ] at a0 a1
  have fa0 := B_a.out.froz 0 (by simp)
  have fa1 := B_a.out.froz 1 (by simp)
  have l_a := B_a.out.lt
  go_wp2_with fail
  clear B_a l_a a0 a1 fa0 fa1
  generalize (w.alloc (.cells #[.pointer (some ⟨g, n * 2, none⟩), .iface T V] 219)).alloc (.cells #[.int .i64 0, .int .i64 0, .string ⟨#[]⟩, .int .i64 0, .int .i64 0] 39) = w0 at *
  refine (countCall_c N b g m cap n cv p _ HR.out.st HR.out.hN hi hcr).mono ?_
  rintro e w1 ⟨rfl, hs1, hk1⟩
  replace HR := Lib.hid (HR.out.next hs1 hk1 HU.out rfl (names_upd p n))
  replace L1 := Lib.hid (L1.out.stays hk1 n1b (by decide) (by decide))
  replace L2 := Lib.hid (L2.out.stays hk1 n2b (by decide) (by decide))
  have HK := Lib.hid ((KeptT.of_below (N := N) (b := b) HB.out HN.out).trans hk1)
  clear hs1 hk1
  have B_a := Lib.hid L1.out.bx
  have a0 := B_a.out.cell 0 (by simp)
  have a1 := B_a.out.cell 1 (by simp)
  simp only [List.getElem_cons_zero, List.getElem_cons_succ] at a0 a1
  have fa0 := B_a.out.froz 0 (by simp)
  have fa1 := B_a.out.froz 1 (by simp)
  have l_a := B_a.out.lt
  go_wp2_with fail
  clear B_a l_a a0 a1 fa0 fa1
  refine (HO.out _ _ HR.out).mono ?_
  rintro e w2 ⟨rfl, cv2, hs2, hk2⟩
  simp only at hs2 ⊢
  replace L2 := Lib.hid (L2.out.stays hk2 n2b (by decide) (by decide))
  replace HK := Lib.hid (HK.out.trans hk2)
  have HS := Lib.hid hs2
  clear hs2 hk2
  unfold vReply
  simp only
  have B_r := Lib.hid L2.out.bx
  have r0 := B_r.out.cell 0 (by simp)
  have r1 := B_r.out.cell 1 (by simp)
  have r2 := B_r.out.cell 2 (by simp)
  have r3 := B_r.out.cell 3 (by simp)
  have r4 := B_r.out.cell 4 (by simp)
  simp only [List.getElem_cons_zero, List.getElem_cons_succ] at r0 r1 r2 r3 r4
  have fr0 := B_r.out.froz 0 (by simp)
  have fr1 := B_r.out.froz 1 (by simp)
  have fr2 := B_r.out.froz 2 (by simp)
  have fr3 := B_r.out.froz 3 (by simp)
  have fr4 := B_r.out.froz 4 (by simp)
  have l_r := B_r.out.lt
  go_wp2_with fail
  refine bodyPost_ret (v := .agg #[.int .i64 t0, .int .i64 t1, .string ⟨t2.toArray⟩, .int .i64 t3, .int .i64 t4]) (by simp [results, Tryz.results238, go_sem, cell_set_at, cell_set_ne, r0, r1, r2, r3, r4]) rfl ?_
  exact done5 ⟨t0, t1, t2, t3, t4⟩ HS.out HK.out L2.out n2b (by omega) HN.out _ _ _ _ _
 have h0b : (val == 0) = false := by simpa using h0
 by_cases h1 : val = 1
 ·subst h1
  rw [if_neg (by decide)]
  have HO := Lib.hid (SC.out (updL p n))
  have HE := Lib.hid (show cX (if (1 : Int) = 0 then mStop else mStart) = (cX mStart) from rfl)
  rw [HE.out]
  clear HE
  generalize lyDo n (updL p n) (cX mStart) = out at *
  obtain ⟨q, t0, t1, t2, t3, t4⟩ := out
  go_enter Tryz.func238, Tryz.ntmps238
  have B_a := Lib.hid L1.out.bx
  have a0 := B_a.out.cell 0 (by simp)
  have a1 := B_a.out.cell 1 (by simp)
  simp only [List.getElem_cons_zero, List.getElem_cons_succ] at a0 a1
  have fa0 := B_a.out.froz 0 (by simp)
  have fa1 := B_a.out.froz 1 (by simp)
  have l_a := B_a.out.lt
  go_wp2_with fail
  clear B_a l_a a0 a1 fa0 fa1
  generalize (w.alloc (.cells #[.pointer (some ⟨g, n * 2, none⟩), .iface T V] 219)).alloc (.cells #[.int .i64 0, .int .i64 0, .string ⟨#[]⟩, .int .i64 0, .int .i64 0] 39) = w0 at *
  refine (countCall_c N b g m cap n cv p _ HR.out.st HR.out.hN hi hcr).mono ?_
  rintro e w1 ⟨rfl, hs1, hk1⟩
  replace HR := Lib.hid (HR.out.next hs1 hk1 HU.out rfl (names_upd p n))
  replace L1 := Lib.hid (L1.out.stays hk1 n1b (by decide) (by decide))
  replace L2 := Lib.hid (L2.out.stays hk1 n2b (by decide) (by decide))
  have HK := Lib.hid ((KeptT.of_below (N := N) (b := b) HB.out HN.out).trans hk1)
  clear hs1 hk1
  have B_a := Lib.hid L1.out.bx
  have a0 := B_a.out.cell 0 (by simp)
  have a1 := B_a.out.cell 1 (by simp)
  simp only [List.getElem_cons_zero, List.getElem_cons_succ] at a0 a1
  have fa0 := B_a.out.froz 0 (by simp)
  have fa1 := B_a.out.froz 1 (by simp)
  have l_a := B_a.out.lt
  go_wp2_with fail
  clear B_a l_a a0 a1 fa0 fa1
  refine (HO.out _ _ HR.out).mono ?_
  rintro e w2 ⟨rfl, cv2, hs2, hk2⟩
  simp only at hs2 ⊢
  replace L2 := Lib.hid (L2.out.stays hk2 n2b (by decide) (by decide))
  replace HK := Lib.hid (HK.out.trans hk2)
  have HS := Lib.hid hs2
  clear hs2 hk2
  unfold vReply
  simp only
  have B_r := Lib.hid L2.out.bx
  have r0 := B_r.out.cell 0 (by simp)
  have r1 := B_r.out.cell 1 (by simp)
  have r2 := B_r.out.cell 2 (by simp)
  have r3 := B_r.out.cell 3 (by simp)
  have r4 := B_r.out.cell 4 (by simp)
  simp only [List.getElem_cons_zero, List.getElem_cons_succ] at r0 r1 r2 r3 r4
  have fr0 := B_r.out.froz 0 (by simp)
  have fr1 := B_r.out.froz 1 (by simp)
  have fr2 := B_r.out.froz 2 (by simp)
  have fr3 := B_r.out.froz 3 (by simp)
  have fr4 := B_r.out.froz 4 (by simp)
  have l_r := B_r.out.lt
  go_wp2_with fail
  refine bodyPost_ret (v := .agg #[.int .i64 t0, .int .i64 t1, .string ⟨t2.toArray⟩, .int .i64 t3, .int .i64 t4]) (by simp [results, Tryz.results238, go_sem, cell_set_at, cell_set_ne, r0, r1, r2, r3, r4]) rfl ?_
  exact done5 ⟨t0, t1, t2, t3, t4⟩ HS.out HK.out L2.out n2b (by omega) HN.out _ _ _ _ _
 have h1b : (val == 1) = false := by simpa using h1
 rw [if_pos (by omega)]
 have hiu : n < (updL p n).fLayers.length := by have := congrArg List.length (names_upd p n); simp at this; omega
 have HLY := Lib.hid (fun cv w (h : PSt N b (.slice (some ⟨g, 0, none⟩) m cap) cv (updL p n) w) => h.lay n hiu)
 generalize cntL (updL p n) n = ct at *
 go_enter Tryz.func238, Tryz.ntmps238
 have B_a := Lib.hid L1.out.bx
 have a0 := B_a.out.cell 0 (by simp)
 have a1 := B_a.out.cell 1 (by simp)
 simp only [List.getElem_cons_zero, List.getElem_cons_succ] at a0 a1
 have fa0 := B_a.out.froz 0 (by simp)
 have fa1 := B_a.out.froz 1 (by simp)
 have l_a := B_a.out.lt
 go_wp2_with fail
 clear B_a l_a a0 a1 fa0 fa1
 generalize (w.alloc (.cells #[.pointer (some ⟨g, n * 2, none⟩), .iface T V] 219)).alloc (.cells #[.int .i64 0, .int .i64 0, .string ⟨#[]⟩, .int .i64 0, .int .i64 0] 39) = w0 at *
 refine (countCall_c N b g m cap n cv p _ HR.out.st HR.out.hN hi hcr).mono ?_
 rintro e w1 ⟨rfl, hs1, hk1⟩
 replace HR := Lib.hid (HR.out.next hs1 hk1 HU.out rfl (names_upd p n))
 replace L1 := Lib.hid (L1.out.stays hk1 n1b (by decide) (by decide))
 replace L2 := Lib.hid (L2.out.stays hk1 n2b (by decide) (by decide))
 have HK := Lib.hid ((KeptT.of_below (N := N) (b := b) HB.out HN.out).trans hk1)
 clear hs1 hk1
 obtain ⟨_, d1, _, hgl, _, hm0, _⟩ := HLY.out _ _ HR.out.st
 clear hm0
 have B_a := Lib.hid L1.out.bx
 have a0 := B_a.out.cell 0 (by simp)
 have a1 := B_a.out.cell 1 (by simp)
 simp only [List.getElem_cons_zero, List.getElem_cons_succ] at a0 a1
 have fa0 := B_a.out.froz 0 (by simp)
 have fa1 := B_a.out.froz 1 (by simp)
 have l_a := B_a.out.lt
 have B_r := Lib.hid L2.out.bx
 have r0 := B_r.out.cell 0 (by simp)
 have r1 := B_r.out.cell 1 (by simp)
 have r2 := B_r.out.cell 2 (by simp)
 have r3 := B_r.out.cell 3 (by simp)
 have r4 := B_r.out.cell 4 (by simp)
 simp only [List.getElem_cons_zero, List.getElem_cons_succ] at r0 r1 r2 r3 r4
 have fr0 := B_r.out.froz 0 (by simp)
 have fr1 := B_r.out.froz 1 (by simp)
 have fr2 := B_r.out.froz 2 (by simp)
 have fr3 := B_r.out.froz 3 (by simp)
 have fr4 := B_r.out.froz 4 (by simp)
 have l_r := B_r.out.lt
 go_wp2_with fail
 refine bodyPost_ret (v := .agg #[.int .i64 0, .int .i64 ct, .string ⟨#[]⟩, .int .i64 0, .int .i64 0]) (by simp [results, Tryz.results238, go_sem, cell_set_at, cell_set_ne, r0, r1, r2, r3, r4]) rfl ?_
 exact done5 ⟨0, ct, [], 0, 0⟩ HR.out.st HK.out L2.out n2b (by omega) HN.out _ _ _ _ _
set_option maxRecDepth 100000 in
set_option maxHeartbeats 3200000 in
theorem heals_Heal (mx : Int) (N b g m cap n : Nat) (k0 : List UInt8) (nms : List (List UInt8)) (T : TypeId) (V : Value) (x : CallD) (hx : x.fMethod = mHeal) (hn : n < nms.length) (hn3 : n < 3) (hnm : nms.getD n [] = nHeals) (HS : MthOk mx N b (.slice (some ⟨g, 0, none⟩) m cap) k0 nms n FsStart T V "Start" #[] (cX mStart)) (HP : MthOk mx N b (.slice (some ⟨g, 0, none⟩) m cap) k0 nms n FsStop T V "Stop" #[] (cX mStop))
  (p : PartD) (cv : Value) (w : World) (hR : Ready mx N b (.slice (some ⟨g, 0, none⟩) m cap) cv k0 nms p w) :
  Calls Tryz.prog 239 #[.agg #[.pointer (some ⟨g, n * 2, none⟩), .iface T V]] w fun e w' => Does4 N b (.slice (some ⟨g, 0, none⟩) m cap) (lyDo (n + 1) p x) w e w' := by
 have hpl := hR.len
 have hi : n < p.fLayers.length := by omega
 have hnmp : nmL p n = nHeals := (hR.nm n).trans hnm
 have hbl := hR.st.core.box.lt
 have HL := Lib.hid (show lyDo (n + 1) p x = lyDo n (lyDo n p (cX mStop)).1 (cX mStart) from by show (if _ then _ else if _ then _ else if _ then _ else if _ then _ else if _ then _ else if _ then _ else _) = _; rw [if_neg (fun h => by rw [hnmp] at h; exact absurd h.1 (by decide)), if_neg (fun h => by rw [hnmp] at h; exact absurd h.1 (by decide)), if_neg (fun h => by rw [hnmp] at h; exact absurd h.1 (by decide)), if_neg (fun h => by rw [hnmp] at h; exact absurd h.1 (by decide)), if_neg (fun h => by rw [hnmp] at h; exact absurd h.1 (by decide)), if_pos ⟨hnmp, hx⟩])
 rw [HL.out]
 clear HL
 obtain ⟨SF, Sr, Sf, Sm, Sn, Sc⟩ := HS
 have Sm4 : ∀ (fuel : Nat) (w : World), (method (fuel + 4) T V _).run Tryz.prog w = .ok (SF, Sr) w := fun fuel w => by have h := Sm (fuel + 3 - n) w; rwa [show fuel + 3 - n + n + 1 = fuel + 4 by omega] at h
 have Sn4 : ∀ (fuel : Nat) (w : World), (nilAhead (fuel + 4) T V _).run Tryz.prog w = .ok (some false) w := fun fuel w => by have h := Sn (fuel + 3 - n) w; rwa [show fuel + 3 - n + n + 1 = fuel + 4 by omega] at h
 have SC := Lib.hid Sc
 clear Sm Sn Sc
 obtain ⟨PF, Pr, Pf, Pm, Pn, Pc⟩ := HP
 have Pm4 : ∀ (fuel : Nat) (w : World), (method (fuel + 4) T V _).run Tryz.prog w = .ok (PF, Pr) w := fun fuel w => by have h := Pm (fuel + 3 - n) w; rwa [show fuel + 3 - n + n + 1 = fuel + 4 by omega] at h
 have Pn4 : ∀ (fuel : Nat) (w : World), (nilAhead (fuel + 4) T V _).run Tryz.prog w = .ok (some false) w := fun fuel w => by have h := Pn (fuel + 3 - n) w; rwa [show fuel + 3 - n + n + 1 = fuel + 4 by omega] at h
 have PC := Lib.hid Pc
 clear Pm Pn Pc
 have L1 := Lib.hid ((Loc.new w [.pointer (some ⟨g, n * 2, none⟩), .iface T V] 220).past (.cells #[.int .i64 0, .int .i64 0, .string ⟨#[]⟩, .int .i64 0, .int .i64 0] 39))
 have L2 := Lib.hid (Loc.new (w.alloc (.cells #[.pointer (some ⟨g, n * 2, none⟩), .iface T V] 220)) [.int .i64 0, .int .i64 0, .string ⟨#[]⟩, .int .i64 0, .int .i64 0] 39)
 have HB := Lib.hid (belS (bx_box w (.cells #[.pointer (some ⟨g, n * 2, none⟩), .iface T V] 220)) (bx_box (w.alloc (.cells #[.pointer (some ⟨g, n * 2, none⟩), .iface T V] 220)) (.cells #[.int .i64 0, .int .i64 0, .string ⟨#[]⟩, .int .i64 0, .int .i64 0] 39)))
 rw [show (w.alloc (.cells #[.pointer (some ⟨g, n * 2, none⟩), .iface T V] 220)).heap.size = w.heap.size + 1 by simp] at L2
 have n1b : w.heap.size ≠ b := by omega
 have n2b : w.heap.size + 1 ≠ b := by omega
 have HR := Lib.hid (hR.below HB.out)
 have HN := Lib.hid hR.hN
 have HP1 := Lib.hid (lyDo_part n p (cX mStop) (by omega) hR.ok)
 have HN1 := Lib.hid (lyDo_names n p (cX mStop))
 clear hR
 simp only [List.mem_cons, List.not_mem_nil, or_false] at Sf Pf
 subst Sf
 subst Pf
 have HO := Lib.hid (PC.out p)
 have HO3 := Lib.hid (SC.out (lyDo n p (cX mStop)).1)
 generalize lyDo n p (cX mStop) = out at *
 obtain ⟨q, t0, t1, t2, t3, t4⟩ := out
 simp only at HP1 HN1 HO3 ⊢
 generalize lyDo n q (cX mStart) = out3 at *
 obtain ⟨q3, v0, v1, v2, v3, v4⟩ := out3
 go_enter Tryz.func239, Tryz.ntmps239
 have B_a := Lib.hid L1.out.bx
 have a0 := B_a.out.cell 0 (by simp)
 have a1 := B_a.out.cell 1 (by simp)
 simp only [List.getElem_cons_zero, List.getElem_cons_succ] at a0 a1
 have fa0 := B_a.out.froz 0 (by simp)
 have fa1 := B_a.out.froz 1 (by simp)
 have l_a := B_a.out.lt
 go_wp2_with fail
 clear B_a l_a a0 a1 fa0 fa1
 generalize (w.alloc (.cells #[.pointer (some ⟨g, n * 2, none⟩), .iface T V] 220)).alloc (.cells #[.int .i64 0, .int .i64 0, .string ⟨#[]⟩, .int .i64 0, .int .i64 0] 39) = w0 at *
 refine (HO.out _ _ HR.out).mono ?_
 rintro e w1 ⟨rfl, cv1, hs1, hk1⟩
 simp only at hs1 ⊢
 replace HR := Lib.hid (HR.out.next hs1 hk1 HP1.out HN1.out.2 HN1.out.1)
 replace L1 := Lib.hid (L1.out.stays hk1 n1b (by decide) (by decide))
 replace L2 := Lib.hid (L2.out.stays hk1 n2b (by decide) (by decide))
 have HK := Lib.hid ((KeptT.of_below (N := N) (b := b) HB.out HN.out).trans hk1)
 clear hs1 hk1
 unfold vReply
 simp only
 have B_a := Lib.hid L1.out.bx
 have a0 := B_a.out.cell 0 (by simp)
 have a1 := B_a.out.cell 1 (by simp)
 simp only [List.getElem_cons_zero, List.getElem_cons_succ] at a0 a1
 have fa0 := B_a.out.froz 0 (by simp)
 have fa1 := B_a.out.froz 1 (by simp)
 have l_a := B_a.out.lt
 go_wp2_with fail
 clear B_a l_a a0 a1 fa0 fa1
 refine (HO3.out _ _ HR.out).mono ?_
 rintro e w4 ⟨rfl, cv4, hs4, hk4⟩
 simp only at hs4 ⊢
 replace L2 := Lib.hid (L2.out.stays hk4 n2b (by decide) (by decide))
 replace HK := Lib.hid (HK.out.trans hk4)
 have HS := Lib.hid hs4
 clear hs4 hk4
 unfold vReply
 simp only
 have B_r := Lib.hid L2.out.bx
 have r0 := B_r.out.cell 0 (by simp)
 have r1 := B_r.out.cell 1 (by simp)
 have r2 := B_r.out.cell 2 (by simp)
 have r3 := B_r.out.cell 3 (by simp)
 have r4 := B_r.out.cell 4 (by simp)
 simp only [List.getElem_cons_zero, List.getElem_cons_succ] at r0 r1 r2 r3 r4
 have fr0 := B_r.out.froz 0 (by simp)
 have fr1 := B_r.out.froz 1 (by simp)
 have fr2 := B_r.out.froz 2 (by simp)
 have fr3 := B_r.out.froz 3 (by simp)
 have fr4 := B_r.out.froz 4 (by simp)
 have l_r := B_r.out.lt
 go_wp2_with fail
 refine bodyPost_ret (v := .agg #[.int .i64 v0, .int .i64 v1, .string ⟨v2.toArray⟩, .int .i64 v3, .int .i64 v4]) (by simp [results, Tryz.results239, go_sem, cell_set_at, cell_set_ne, r0, r1, r2, r3, r4]) rfl ?_
 exact done5 ⟨v0, v1, v2, v3, v4⟩ HS.out HK.out L2.out n2b (by omega) HN.out _ _ _ _ _
set_option maxRecDepth 100000 in
set_option maxHeartbeats 3200000 in
theorem twice_Tell (mx : Int) (N b g m cap n : Nat) (k0 : List UInt8) (nms : List (List UInt8)) (T : TypeId) (V : Value) (x : CallD) (hx : x.fMethod = mTell) (hn : n < nms.length) (hn3 : n < 3) (hnm : nms.getD n [] = nTwice) (HI : MthOk mx N b (.slice (some ⟨g, 0, none⟩) m cap) k0 nms n FsTell T V "Tell" #[] x)
  (p : PartD) (cv : Value) (w : World) (hR : Ready mx N b (.slice (some ⟨g, 0, none⟩) m cap) cv k0 nms p w) :
  Calls Tryz.prog 240 #[.agg #[.pointer (some ⟨g, n * 2, none⟩), .iface T V]] w fun e w' => Does4 N b (.slice (some ⟨g, 0, none⟩) m cap) (lyDo (n + 1) p x) w e w' := by
 have hpl := hR.len
 have hi : n < p.fLayers.length := by omega
 have hnmp : nmL p n = nTwice := (hR.nm n).trans hnm
 have hbl := hR.st.core.box.lt
 have HL := Lib.hid (show lyDo (n + 1) p x = ((lyDo n p x).1, twR (lyDo n p x).2) from by show (if _ then _ else if _ then _ else if _ then _ else if _ then _ else if _ then _ else if _ then _ else if _ then _ else _) = _; rw [if_neg (fun h => by rw [hnmp] at h; exact absurd h.1 (by decide)), if_neg (fun h => by rw [hnmp] at h; exact absurd h.1 (by decide)), if_neg (fun h => by rw [hnmp] at h; exact absurd h.1 (by decide)), if_neg (fun h => by rw [hnmp] at h; exact absurd h.1 (by decide)), if_neg (fun h => by rw [hnmp] at h; exact absurd h.1 (by decide)), if_neg (fun h => by rw [hnmp] at h; exact absurd h.1 (by decide)), if_pos ⟨hnmp, hx⟩])
 rw [HL.out]
 clear HL
 obtain ⟨IF, Ir, If, Im, In, Ic⟩ := HI
 have Im4 : ∀ (fuel : Nat) (w : World), (method (fuel + 4) T V _).run Tryz.prog w = .ok (IF, Ir) w := fun fuel w => by have h := Im (fuel + 3 - n) w; rwa [show fuel + 3 - n + n + 1 = fuel + 4 by omega] at h
 have In4 : ∀ (fuel : Nat) (w : World), (nilAhead (fuel + 4) T V _).run Tryz.prog w = .ok (some false) w := fun fuel w => by have h := In (fuel + 3 - n) w; rwa [show fuel + 3 - n + n + 1 = fuel + 4 by omega] at h
 have IC := Lib.hid Ic
 clear Im In Ic
 have L1 := Lib.hid ((Loc.new w [.pointer (some ⟨g, n * 2, none⟩), .iface T V] 224).past (.cells #[.int .i64 0, .int .i64 0, .string ⟨#[]⟩, .int .i64 0, .int .i64 0] 39))
 have L2 := Lib.hid (Loc.new (w.alloc (.cells #[.pointer (some ⟨g, n * 2, none⟩), .iface T V] 224)) [.int .i64 0, .int .i64 0, .string ⟨#[]⟩, .int .i64 0, .int .i64 0] 39)
 have HB := Lib.hid (belS (bx_box w (.cells #[.pointer (some ⟨g, n * 2, none⟩), .iface T V] 224)) (bx_box (w.alloc (.cells #[.pointer (some ⟨g, n * 2, none⟩), .iface T V] 224)) (.cells #[.int .i64 0, .int .i64 0, .string ⟨#[]⟩, .int .i64 0, .int .i64 0] 39)))
 rw [show (w.alloc (.cells #[.pointer (some ⟨g, n * 2, none⟩), .iface T V] 224)).heap.size = w.heap.size + 1 by simp] at L2
 have n1b : w.heap.size ≠ b := by omega
 have n2b : w.heap.size + 1 ≠ b := by omega
 have HR := Lib.hid (hR.below HB.out)
 have HN := Lib.hid hR.hN
 have hrg := lyDo_tell n p x hx (by omega) hR.ok
 have HP1 := Lib.hid (lyDo_part n p x (by omega) hR.ok)
 have HN1 := Lib.hid (lyDo_names n p x)
 clear hR
 have HO := Lib.hid (IC.out p)
 generalize lyDo n p x = out at *
 obtain ⟨q, t0, t1, t2, t3, t4⟩ := out
 simp only at hrg
 obtain ⟨g0, g1⟩ := hrg
 simp only [List.mem_cons, List.not_mem_nil, or_false] at If
 by_cases h0 : t0 = 0
 ·subst h0
  have hw : IntKind.i64.wrap (2 * t1) = 2 * t1 := by rw [IntKind.wrap_i64]; omega
  ·skip
   have HT := Lib.hid (show twR ⟨0, t1, t2, t3, t4⟩ = ⟨0, min (2 * t1) 999, t2, t3, t4⟩ from by unfold twR; rw [if_pos rfl]; congr 1; simp only; split <;> omega)
   rw [HT.out]
   clear HT
   rcases If with rfl | rfl | rfl
   all_goals
    go_enter Tryz.func240, Tryz.ntmps240
    have B_a := Lib.hid L1.out.bx
    have a0 := B_a.out.cell 0 (by simp)
    have a1 := B_a.out.cell 1 (by simp)
    simp only [List.getElem_cons_zero, List.getElem_cons_succ] at a0 a1
    have fa0 := B_a.out.froz 0 (by simp)
    have fa1 := B_a.out.froz 1 (by simp)
    have l_a := B_a.out.lt
    go_wp2_with fail
    clear B_a l_a a0 a1 fa0 fa1
    generalize (w.alloc (.cells #[.pointer (some ⟨g, n * 2, none⟩), .iface T V] 224)).alloc (.cells #[.int .i64 0, .int .i64 0, .string ⟨#[]⟩, .int .i64 0, .int .i64 0] 39) = w0 at *
    refine (HO.out _ _ HR.out).mono ?_
    rintro e w1 ⟨rfl, cv1, hs1, hk1⟩
    simp only at hs1 HP1 HN1 ⊢
    replace HR := Lib.hid (HR.out.next hs1 hk1 HP1.out HN1.out.2 HN1.out.1)
    replace L2 := Lib.hid (L2.out.stays hk1 n2b (by decide) (by decide))
    have HK := Lib.hid ((KeptT.of_below (N := N) (b := b) HB.out HN.out).trans hk1)
    clear hs1 hk1
    unfold vReply
    simp only
    have h1l := L2.out.bx.lt
    have L3 := Lib.hid (Loc.new w1 [.int .i64 0, .int .i64 t1, .string ⟨t2.toArray⟩, .int .i64 t3, .int .i64 t4] 39)
    have hbz := bx_box w1 (.cells #[.int .i64 0, .int .i64 t1, .string ⟨t2.toArray⟩, .int .i64 t3, .int .i64 t4] 39)
    have n3b : w1.heap.size ≠ b := by have := HR.out.st.core.box.lt; omega
    have h3l : w.heap.size ≤ w1.heap.size := HK.out.size
    have h23 : ¬ w.heap.size + 1 = w1.heap.size := by omega
    have h32 : ¬ w1.heap.size = w.heap.size + 1 := by omega
    replace HR := Lib.hid (HR.out.below hbz)
    replace L2 := Lib.hid (L2.out.below hbz)
    replace HK := Lib.hid (HK.out.below hbz HN.out)
    clear hbz
    go_upto_region 2 with fail
    generalize w1.alloc (.cells #[.int .i64 0, .int .i64 t1, .string ⟨t2.toArray⟩, .int .i64 t3, .int .i64 t4] 39) = w2 at *
    generalize w1.heap.size = n3 at *
    have B_e := Lib.hid L3.out.bx
    have e0 := B_e.out.cell 0 (by simp)
    have e1 := B_e.out.cell 1 (by simp)
    have e2 := B_e.out.cell 2 (by simp)
    have e3 := B_e.out.cell 3 (by simp)
    have e4 := B_e.out.cell 4 (by simp)
    simp only [List.getElem_cons_zero, List.getElem_cons_succ] at e0 e1 e2 e3 e4
    have fe0 := B_e.out.froz 0 (by simp)
    have fe1 := B_e.out.froz 1 (by simp)
    have fe2 := B_e.out.froz 2 (by simp)
    have fe3 := B_e.out.froz 3 (by simp)
    have fe4 := B_e.out.froz 4 (by simp)
    have l_e := B_e.out.lt
    have B_r := Lib.hid L2.out.bx
    have r0 := B_r.out.cell 0 (by simp)
    have r1 := B_r.out.cell 1 (by simp)
    have r2 := B_r.out.cell 2 (by simp)
    have r3 := B_r.out.cell 3 (by simp)
    have r4 := B_r.out.cell 4 (by simp)
    simp only [List.getElem_cons_zero, List.getElem_cons_succ] at r0 r1 r2 r3 r4
    have fr0 := B_r.out.froz 0 (by simp)
    have fr1 := B_r.out.froz 1 (by simp)
    have fr2 := B_r.out.froz 2 (by simp)
    have fr3 := B_r.out.froz 3 (by simp)
    have fr4 := B_r.out.froz 4 (by simp)
    have l_r := B_r.out.lt
    have HS9 := Lib.hid (HR.out.st.setL L3.out n3b (by decide) (by decide) 1 (.int .i64 (min (2 * t1) 999)))
    have HK9 := Lib.hid (HK.out.setNew HN.out n3 1 (.int .i64 (min (2 * t1) 999)) h3l)
    have L29 := Lib.hid (L2.out.other h23 1 (.int .i64 (min (2 * t1) 999)))
    replace L2 := L29
    go_wp2_with fail
    have HD := Lib.hid (done5 ⟨0, min (2 * t1) 999, t2, t3, t4⟩ HS9.out HK9.out L2.out n2b (by omega) HN.out (.int .i64 0) (.int .i64 (min (2 * t1) 999)) (.string ⟨t2.toArray⟩) (.int .i64 t3) (.int .i64 t4))
    have LE := Lib.hid (((((L2.out.bx.set 0 (by simp) (.int .i64 0)).set 1 (by simp) (.int .i64 (min (2 * t1) 999))).set 2 (by simp) (.string ⟨t2.toArray⟩)).set 3 (by simp) (.int .i64 t3)).set 4 (by simp) (.int .i64 t4))
    simp only [List.set_cons_zero, List.set_cons_succ] at LE
    generalize (((((w2.setCell ⟨n3, 1, none⟩ (.int .i64 (min (2 * t1) 999))).setCell ⟨w.heap.size + 1, 0, none⟩ (.int .i64 0)).setCell ⟨w.heap.size + 1, 1, none⟩ (.int .i64 (min (2 * t1) 999))).setCell ⟨w.heap.size + 1, 2, none⟩ (.string ⟨t2.toArray⟩)).setCell ⟨w.heap.size + 1, 3, none⟩ (.int .i64 t3)).setCell ⟨w.heap.size + 1, 4, none⟩ (.int .i64 t4) = wE at *
    clear r0 r1 r2 r3 r4 fr0 fr1 fr2 fr3 fr4 B_r l_r e0 e1 e2 e3 e4 fe0 fe1 fe2 fe3 fe4 B_e l_e
    have r0 := LE.out.cell 0 (by simp)
    have r1 := LE.out.cell 1 (by simp)
    have r2 := LE.out.cell 2 (by simp)
    have r3 := LE.out.cell 3 (by simp)
    have r4 := LE.out.cell 4 (by simp)
    simp only [List.getElem_cons_zero, List.getElem_cons_succ] at r0 r1 r2 r3 r4
    refine bodyPost_ret (v := .agg #[.int .i64 0, .int .i64 (min (2 * t1) 999), .string ⟨t2.toArray⟩, .int .i64 t3, .int .i64 t4]) (by simp [results, Tryz.results240, go_sem, r0, r1, r2, r3, r4]) rfl ?_
    exact HD.out
 ·have h0b : (t0 == 0) = false := by simpa using h0
  have HT := Lib.hid (show twR ⟨t0, t1, t2, t3, t4⟩ = ⟨t0, t1, t2, t3, t4⟩ from if_neg h0)
  rw [HT.out]
  clear HT
  rcases If with rfl | rfl | rfl
  all_goals
   go_enter Tryz.func240, Tryz.ntmps240
   have B_a := Lib.hid L1.out.bx
   have a0 := B_a.out.cell 0 (by simp)
   have a1 := B_a.out.cell 1 (by simp)
   simp only [List.getElem_cons_zero, List.getElem_cons_succ] at a0 a1
   have fa0 := B_a.out.froz 0 (by simp)
   have fa1 := B_a.out.froz 1 (by simp)
   have l_a := B_a.out.lt
   go_wp2_with fail
   clear B_a l_a a0 a1 fa0 fa1
   generalize (w.alloc (.cells #[.pointer (some ⟨g, n * 2, none⟩), .iface T V] 224)).alloc (.cells #[.int .i64 0, .int .i64 0, .string ⟨#[]⟩, .int .i64 0, .int .i64 0] 39) = w0 at *
   refine (HO.out _ _ HR.out).mono ?_
   rintro e w1 ⟨rfl, cv1, hs1, hk1⟩
   simp only at hs1 HP1 HN1 ⊢
   replace HR := Lib.hid (HR.out.next hs1 hk1 HP1.out HN1.out.2 HN1.out.1)
   replace L2 := Lib.hid (L2.out.stays hk1 n2b (by decide) (by decide))
   have HK := Lib.hid ((KeptT.of_below (N := N) (b := b) HB.out HN.out).trans hk1)
   clear hs1 hk1
   unfold vReply
   simp only
   have h1l := L2.out.bx.lt
   have L3 := Lib.hid (Loc.new w1 [.int .i64 t0, .int .i64 t1, .string ⟨t2.toArray⟩, .int .i64 t3, .int .i64 t4] 39)
   have hbz := bx_box w1 (.cells #[.int .i64 t0, .int .i64 t1, .string ⟨t2.toArray⟩, .int .i64 t3, .int .i64 t4] 39)
   have n3b : w1.heap.size ≠ b := by have := HR.out.st.core.box.lt; omega
   have h3l : w.heap.size ≤ w1.heap.size := HK.out.size
   have h23 : ¬ w.heap.size + 1 = w1.heap.size := by omega
   have h32 : ¬ w1.heap.size = w.heap.size + 1 := by omega
   replace HR := Lib.hid (HR.out.below hbz)
   replace L2 := Lib.hid (L2.out.below hbz)
   replace HK := Lib.hid (HK.out.below hbz HN.out)
   clear hbz
   go_upto_region 2 with fail
   generalize w1.alloc (.cells #[.int .i64 t0, .int .i64 t1, .string ⟨t2.toArray⟩, .int .i64 t3, .int .i64 t4] 39) = w2 at *
   generalize w1.heap.size = n3 at *
   have B_e := Lib.hid L3.out.bx
   have e0 := B_e.out.cell 0 (by simp)
   have e1 := B_e.out.cell 1 (by simp)
   have e2 := B_e.out.cell 2 (by simp)
   have e3 := B_e.out.cell 3 (by simp)
   have e4 := B_e.out.cell 4 (by simp)
   simp only [List.getElem_cons_zero, List.getElem_cons_succ] at e0 e1 e2 e3 e4
   have fe0 := B_e.out.froz 0 (by simp)
   have fe1 := B_e.out.froz 1 (by simp)
   have fe2 := B_e.out.froz 2 (by simp)
   have fe3 := B_e.out.froz 3 (by simp)
   have fe4 := B_e.out.froz 4 (by simp)
   have l_e := B_e.out.lt
   have B_r := Lib.hid L2.out.bx
   have r0 := B_r.out.cell 0 (by simp)
   have r1 := B_r.out.cell 1 (by simp)
   have r2 := B_r.out.cell 2 (by simp)
   have r3 := B_r.out.cell 3 (by simp)
   have r4 := B_r.out.cell 4 (by simp)
   simp only [List.getElem_cons_zero, List.getElem_cons_succ] at r0 r1 r2 r3 r4
   have fr0 := B_r.out.froz 0 (by simp)
   have fr1 := B_r.out.froz 1 (by simp)
   have fr2 := B_r.out.froz 2 (by simp)
   have fr3 := B_r.out.froz 3 (by simp)
   have fr4 := B_r.out.froz 4 (by simp)
   have l_r := B_r.out.lt
   go_wp2_with fail
   refine bodyPost_ret (v := .agg #[.int .i64 t0, .int .i64 t1, .string ⟨t2.toArray⟩, .int .i64 t3, .int .i64 t4]) (by simp [results, Tryz.results240, go_sem, cell_set_at, cell_set_ne, r0, r1, r2, r3, r4]) rfl ?_
   exact done5 ⟨t0, t1, t2, t3, t4⟩ HR.out.st HK.out L2.out n2b (by omega) HN.out _ _ _ _ _
def ownB (nm m : List UInt8) : Bool := (nm == nCounts && (m == mTell || keptB m)) || (nm == nLazy && keptB m) || (nm == nReads && m == mPut) || (nm == nHears && m == mHear) || (nm == nHeals && m == mHeal) || (nm == nTwice && m == mTell)
theorem lyDo_skip (n : Nat) (p : PartD) (x : CallD) (h : ownB (nmL p n) x.fMethod = false) : lyDo (n + 1) p x = lyDo n p x := by
 unfold ownB at h
 simp only [Bool.or_eq_false_iff, Bool.and_eq_false_iff, beq_eq_false_iff_ne] at h
 obtain ⟨⟨⟨⟨⟨h1, h2⟩, h3⟩, h4⟩, h5⟩, h6⟩ := h
 have key : ∀ {P Q : Prop}, ¬ P ∨ ¬ Q → ¬ (P ∧ Q) := fun h ⟨a, b⟩ => h.elim (fun n => n a) (fun n => n b)
 show (if _ then _ else if _ then _ else if _ then _ else if _ then _ else if _ then _ else if _ then _ else if _ then _ else _) = _
 rw [if_neg, if_neg, if_neg, if_neg, if_neg, if_neg, if_neg]
 ·exact key h6
 ·exact key h5
 ·exact key h4
 ·exact key h3
 ·rintro ⟨a, c⟩; rcases h2 with h2 | h2
  ·exact h2 a
  ·rw [c] at h2; cases h2
 ·rintro ⟨a, c⟩; rcases h1 with h1 | h1
  ·exact h1 a
  ·rw [c] at h1; exact absurd h1.2 (by simp)
 ·rintro ⟨a, c⟩; rcases h1 with h1 | h1
  ·exact h1 a
  ·exact h1.1 c
theorem MthOk.inherit {mx : Int} {N b : Nat} {lv : Value} {k0 : List UInt8} {nms : List (List UInt8)} {n : Nat} {Fs : List FuncId} {T T' : TypeId} {V V' : Value} {nm : String} {args : Array Value} {x : CallD} (H : MthOk mx N b lv k0 nms n Fs T V nm args x)
  (h1 : ∀ (fuel : Nat) (w : World), (method (fuel + 1) T' V' nm).run Tryz.prog w = (method fuel T V nm).run Tryz.prog w) (h2 : ∀ (fuel : Nat) (w : World), (nilAhead (fuel + 1) T' V' nm).run Tryz.prog w = (nilAhead fuel T V nm).run Tryz.prog w)
  (ho : ownB (nms.getD n []) x.fMethod = false) : MthOk mx N b lv k0 nms (n + 1) Fs T' V' nm args x := by
 obtain ⟨F, rcv, hF, hm, hn, hc⟩ := H
 refine ⟨F, rcv, hF, fun fuel w => ?_, fun fuel w => ?_, fun p cv w hR => ?_⟩
 ·rw [show fuel + (n + 1) + 1 = fuel + n + 1 + 1 by omega, h1]; exact hm fuel w
 ·rw [show fuel + (n + 1) + 1 = fuel + n + 1 + 1 by omega, h2]; exact hn fuel w
 ·rw [lyDo_skip n p x (by rw [hR.nm n]; exact ho)]; exact hc p cv w hR
theorem offers_3 {f : Int} (hf : isF f = true) (h : offersF f 3 = true) : offersF f 1 = true ∧ offersF f 2 = true := by
 have h2 : 0 ≤ f ∧ f ≤ 63 := by unfold isF at hf; simpa using hf
 obtain ⟨_, e1, e2, _, e3⟩ := off_bits ⟨f.toNat, by omega⟩
 rw [show ((f.toNat : Nat) : Int) = f by omega] at e1 e2 e3
 rw [e3, Bool.and_eq_true] at h
 rw [e1, e2]; exact h
theorem good_cX {m : List UInt8} (h : callB (cX m) = true) : GoodX (cX m) m := ⟨h, by simp [cX], by simp [cX], rfl⟩
theorem hear_lo {x : CallD} (y : GoodX x mHear) : 0 ≤ x.fValue := by
 have h := y.ok
 unfold callB at h
 rw [y.hm] at h
 simp only [Bool.and_eq_true] at h
 have h2 := h.1.2
 rw [if_pos (by decide)] at h2
 unfold numB at h2
 simp only [Bool.and_eq_true, decide_eq_true_iff] at h2
 exact h2.1
theorem stack_l0 (mx : Int) (N b g m cap n : Nat) (k0 : List UInt8) (nms : List (List UInt8)) (T : TypeId) (V : Value) (f : Int) (hn : n < nms.length) (hn3 : n < 3) (hnm : nms.getD n [] = layN 0)  (S : Stack mx N b (.slice (some ⟨g, 0, none⟩) m cap) k0 nms n T V f) : Stack mx N b (.slice (some ⟨g, 0, none⟩) m cap) k0 nms (n + 1) 226 (.agg #[.pointer (some ⟨g, n * 2, none⟩)]) 0 where
 start := fun h => absurd h (by decide +kernel)
 stop := fun h => absurd h (by decide +kernel)
 get := fun h => absurd h (by decide +kernel)
 put := fun h => absurd h (by decide +kernel)
 tell := fun h => absurd h (by decide +kernel)
 hear := fun h => absurd h (by decide +kernel)
 load := fun h => absurd h (by decide +kernel)
 save := fun h => absurd h (by decide +kernel)
 heal := fun h => absurd h (by decide +kernel)
theorem stack_l1 (mx : Int) (N b g m cap n : Nat) (k0 : List UInt8) (nms : List (List UInt8)) (T : TypeId) (V : Value) (f : Int) (hn : n < nms.length) (hn3 : n < 3) (hnm : nms.getD n [] = layN 1) (hf1 : offersF f 1 = true) (S : Stack mx N b (.slice (some ⟨g, 0, none⟩) m cap) k0 nms n T V f) : Stack mx N b (.slice (some ⟨g, 0, none⟩) m cap) k0 nms (n + 1) 208 (.agg #[.pointer (some ⟨g, n * 2, none⟩), .iface T V]) 1 where
 start := fun _ x y => (S.start hf1 x y).inherit (by intro fuel w; kernel_rfl) (by intro fuel w; kernel_rfl) (by rw [hnm, y.hm]; decide)
 stop := fun _ x y => (S.stop hf1 x y).inherit (by intro fuel w; kernel_rfl) (by intro fuel w; kernel_rfl) (by rw [hnm, y.hm]; decide)
 get := fun h => absurd h (by decide +kernel)
 put := fun h => absurd h (by decide +kernel)
 tell := fun h => absurd h (by decide +kernel)
 hear := fun h => absurd h (by decide +kernel)
 load := fun h => absurd h (by decide +kernel)
 save := fun h => absurd h (by decide +kernel)
 heal := fun h => absurd h (by decide +kernel)
theorem stack_l2 (mx : Int) (N b g m cap n : Nat) (k0 : List UInt8) (nms : List (List UInt8)) (T : TypeId) (V : Value) (f : Int) (hn : n < nms.length) (hn3 : n < 3) (hnm : nms.getD n [] = layN 2) (hf2 : offersF f 2 = true) (S : Stack mx N b (.slice (some ⟨g, 0, none⟩) m cap) k0 nms n T V f) : Stack mx N b (.slice (some ⟨g, 0, none⟩) m cap) k0 nms (n + 1) 212 (.agg #[.pointer (some ⟨g, n * 2, none⟩), .iface T V]) 2 where
 start := fun h => absurd h (by decide +kernel)
 stop := fun h => absurd h (by decide +kernel)
 get := fun _ x y => (S.get hf2 x y).inherit (by intro fuel w; kernel_rfl) (by intro fuel w; kernel_rfl) (by rw [hnm, y.hm]; decide)
 put := fun _ x y => (S.put hf2 x y).inherit (by intro fuel w; kernel_rfl) (by intro fuel w; kernel_rfl) (by rw [hnm, y.hm]; decide)
 tell := fun h => absurd h (by decide +kernel)
 hear := fun h => absurd h (by decide +kernel)
 load := fun h => absurd h (by decide +kernel)
 save := fun h => absurd h (by decide +kernel)
 heal := fun h => absurd h (by decide +kernel)
theorem stack_l3 (mx : Int) (N b g m cap n : Nat) (k0 : List UInt8) (nms : List (List UInt8)) (T : TypeId) (V : Value) (f : Int) (hn : n < nms.length) (hn3 : n < 3) (hnm : nms.getD n [] = layN 3) (hf2 : offersF f 2 = true) (S : Stack mx N b (.slice (some ⟨g, 0, none⟩) m cap) k0 nms n T V f) : Stack mx N b (.slice (some ⟨g, 0, none⟩) m cap) k0 nms (n + 1) 213 (.agg #[.pointer (some ⟨g, n * 2, none⟩), .iface T V]) 6 where
 start := fun h => absurd h (by decide +kernel)
 stop := fun h => absurd h (by decide +kernel)
 get := fun _ x y => ⟨232, _, by simp, by intro fuel w; kernel_rfl, by intro fuel w; kernel_rfl, fun p cv w hR => counts_Get mx N b g m cap n k0 nms T V x x.fKey (by rw [y.hm]; decide) (by rw [y.hm]; decide) hn hn3 hnm (S.get hf2 x y) p cv w hR⟩
 put := fun _ x y => ⟨233, _, by simp, by intro fuel w; kernel_rfl, by intro fuel w; kernel_rfl, fun p cv w hR => counts_Put mx N b g m cap n k0 nms T V x x.fKey x.fValue (by rw [y.hm]; decide) (by rw [y.hm]; decide) hn hn3 hnm (S.put hf2 x y) p cv w hR⟩
 tell := fun _ x y => ⟨234, _, by simp, by intro fuel w; kernel_rfl, by intro fuel w; kernel_rfl, fun p cv w hR => counts_Tell mx N b g m cap n k0 nms T V x y.hm hn hn3 hnm p cv w hR⟩
 hear := fun h => absurd h (by decide +kernel)
 load := fun h => absurd h (by decide +kernel)
 save := fun h => absurd h (by decide +kernel)
 heal := fun h => absurd h (by decide +kernel)
theorem stack_l4 (mx : Int) (N b g m cap n : Nat) (k0 : List UInt8) (nms : List (List UInt8)) (T : TypeId) (V : Value) (f : Int) (hn : n < nms.length) (hn3 : n < 3) (hnm : nms.getD n [] = layN 4) (hf1 : offersF f 1 = true) (hf2 : offersF f 2 = true) (S : Stack mx N b (.slice (some ⟨g, 0, none⟩) m cap) k0 nms n T V f) : Stack mx N b (.slice (some ⟨g, 0, none⟩) m cap) k0 nms (n + 1) 217 (.agg #[.pointer (some ⟨g, n * 2, none⟩), .iface T V]) 3 where
 start := fun _ x y => (S.start hf1 x y).inherit (by intro fuel w; kernel_rfl) (by intro fuel w; kernel_rfl) (by rw [hnm, y.hm]; decide)
 stop := fun _ x y => (S.stop hf1 x y).inherit (by intro fuel w; kernel_rfl) (by intro fuel w; kernel_rfl) (by rw [hnm, y.hm]; decide)
 get := fun _ x y => ⟨235, _, by simp, by intro fuel w; kernel_rfl, by intro fuel w; kernel_rfl, fun p cv w hR => lazy_Get mx N b g m cap n k0 nms T V x x.fKey (by rw [y.hm]; decide) hn hn3 hnm (S.get hf2 x y) (S.start hf1 _ (good_cX (by decide))) p cv w hR⟩
 put := fun _ x y => ⟨236, _, by simp, by intro fuel w; kernel_rfl, by intro fuel w; kernel_rfl, fun p cv w hR => lazy_Put mx N b g m cap n k0 nms T V x x.fKey x.fValue (by rw [y.hm]; decide) hn hn3 hnm (S.put hf2 x y) (S.start hf1 _ (good_cX (by decide))) p cv w hR⟩
 tell := fun h => absurd h (by decide +kernel)
 hear := fun h => absurd h (by decide +kernel)
 load := fun h => absurd h (by decide +kernel)
 save := fun h => absurd h (by decide +kernel)
 heal := fun h => absurd h (by decide +kernel)
theorem stack_l5 (mx : Int) (N b g m cap n : Nat) (k0 : List UInt8) (nms : List (List UInt8)) (T : TypeId) (V : Value) (f : Int) (hn : n < nms.length) (hn3 : n < 3) (hnm : nms.getD n [] = layN 5) (hf2 : offersF f 2 = true) (S : Stack mx N b (.slice (some ⟨g, 0, none⟩) m cap) k0 nms n T V f) : Stack mx N b (.slice (some ⟨g, 0, none⟩) m cap) k0 nms (n + 1) 218 (.agg #[.pointer (some ⟨g, n * 2, none⟩), .iface T V]) 2 where
 start := fun h => absurd h (by decide +kernel)
 stop := fun h => absurd h (by decide +kernel)
 get := fun _ x y => (S.get hf2 x y).inherit (by intro fuel w; kernel_rfl) (by intro fuel w; kernel_rfl) (by rw [hnm, y.hm]; decide)
 put := fun _ x y => ⟨237, _, by simp, by intro fuel w; kernel_rfl, by intro fuel w; kernel_rfl, fun p cv w hR => reads_Put mx N b g m cap n k0 nms T V x x.fKey x.fValue y.hm hn hn3 hnm p cv w hR⟩
 tell := fun h => absurd h (by decide +kernel)
 hear := fun h => absurd h (by decide +kernel)
 load := fun h => absurd h (by decide +kernel)
 save := fun h => absurd h (by decide +kernel)
 heal := fun h => absurd h (by decide +kernel)
theorem stack_l6 (mx : Int) (N b g m cap n : Nat) (k0 : List UInt8) (nms : List (List UInt8)) (T : TypeId) (V : Value) (f : Int) (hn : n < nms.length) (hn3 : n < 3) (hnm : nms.getD n [] = layN 6) (hf1 : offersF f 1 = true) (S : Stack mx N b (.slice (some ⟨g, 0, none⟩) m cap) k0 nms n T V f) : Stack mx N b (.slice (some ⟨g, 0, none⟩) m cap) k0 nms (n + 1) 219 (.agg #[.pointer (some ⟨g, n * 2, none⟩), .iface T V]) 9 where
 start := fun _ x y => (S.start hf1 x y).inherit (by intro fuel w; kernel_rfl) (by intro fuel w; kernel_rfl) (by rw [hnm, y.hm]; decide)
 stop := fun _ x y => (S.stop hf1 x y).inherit (by intro fuel w; kernel_rfl) (by intro fuel w; kernel_rfl) (by rw [hnm, y.hm]; decide)
 get := fun h => absurd h (by decide +kernel)
 put := fun h => absurd h (by decide +kernel)
 tell := fun h => absurd h (by decide +kernel)
 hear := fun _ x y => ⟨238, _, by simp, by intro fuel w; kernel_rfl, by intro fuel w; kernel_rfl, fun p cv w hR => hears_Hear mx N b g m cap n k0 nms T V x x.fValue y.hm rfl (hear_lo y) hn hn3 hnm (S.start hf1 _ (good_cX (by decide))) (S.stop hf1 _ (good_cX (by decide))) p cv w hR⟩
 load := fun h => absurd h (by decide +kernel)
 save := fun h => absurd h (by decide +kernel)
 heal := fun h => absurd h (by decide +kernel)
theorem stack_l7 (mx : Int) (N b g m cap n : Nat) (k0 : List UInt8) (nms : List (List UInt8)) (T : TypeId) (V : Value) (f : Int) (hn : n < nms.length) (hn3 : n < 3) (hnm : nms.getD n [] = layN 7) (hf1 : offersF f 1 = true) (S : Stack mx N b (.slice (some ⟨g, 0, none⟩) m cap) k0 nms n T V f) : Stack mx N b (.slice (some ⟨g, 0, none⟩) m cap) k0 nms (n + 1) 220 (.agg #[.pointer (some ⟨g, n * 2, none⟩), .iface T V]) 33 where
 start := fun _ x y => (S.start hf1 x y).inherit (by intro fuel w; kernel_rfl) (by intro fuel w; kernel_rfl) (by rw [hnm, y.hm]; decide)
 stop := fun _ x y => (S.stop hf1 x y).inherit (by intro fuel w; kernel_rfl) (by intro fuel w; kernel_rfl) (by rw [hnm, y.hm]; decide)
 get := fun h => absurd h (by decide +kernel)
 put := fun h => absurd h (by decide +kernel)
 tell := fun h => absurd h (by decide +kernel)
 hear := fun h => absurd h (by decide +kernel)
 load := fun h => absurd h (by decide +kernel)
 save := fun h => absurd h (by decide +kernel)
 heal := fun _ x y => ⟨239, _, by simp, by intro fuel w; kernel_rfl, by intro fuel w; kernel_rfl, fun p cv w hR => heals_Heal mx N b g m cap n k0 nms T V x y.hm hn hn3 hnm (S.start hf1 _ (good_cX (by decide))) (S.stop hf1 _ (good_cX (by decide))) p cv w hR⟩
theorem stack_l8 (mx : Int) (N b g m cap n : Nat) (k0 : List UInt8) (nms : List (List UInt8)) (T : TypeId) (V : Value) (f : Int) (hn : n < nms.length) (hn3 : n < 3) (hnm : nms.getD n [] = layN 8) (hf4 : offersF f 4 = true) (S : Stack mx N b (.slice (some ⟨g, 0, none⟩) m cap) k0 nms n T V f) : Stack mx N b (.slice (some ⟨g, 0, none⟩) m cap) k0 nms (n + 1) 224 (.agg #[.pointer (some ⟨g, n * 2, none⟩), .iface T V]) 4 where
 start := fun h => absurd h (by decide +kernel)
 stop := fun h => absurd h (by decide +kernel)
 get := fun h => absurd h (by decide +kernel)
 put := fun h => absurd h (by decide +kernel)
 tell := fun _ x y => ⟨240, _, by simp, by intro fuel w; kernel_rfl, by intro fuel w; kernel_rfl, fun p cv w hR => twice_Tell mx N b g m cap n k0 nms T V x y.hm hn hn3 hnm (S.tell hf4 x y) p cv w hR⟩
 hear := fun h => absurd h (by decide +kernel)
 load := fun h => absurd h (by decide +kernel)
 save := fun h => absurd h (by decide +kernel)
 heal := fun h => absurd h (by decide +kernel)
theorem stack_wrap (mx : Int) (N b g m cap n : Nat) (k0 : List UInt8) (nms : List (List UInt8)) (T : TypeId) (V : Value) (f : Int) (hfo : isF f = true) (i : Nat) (hi : i < 9) (hn : n < nms.length) (hn3 : n < 3) (hnm : nms.getD n [] = layN i) (hne : offersF f (needN i) = true) (S : Stack mx N b (.slice (some ⟨g, 0, none⟩) m cap) k0 nms n T V f) :
  ∃ T' V', wrapV g (n * 2) (.iface T V) i = .iface T' V' ∧ Stack mx N b (.slice (some ⟨g, 0, none⟩) m cap) k0 nms (n + 1) T' V' (giveN i) ∧ Ass6 T' (giveN i) := by
 rcases (show i = 0 ∨ i = 1 ∨ i = 2 ∨ i = 3 ∨ i = 4 ∨ i = 5 ∨ i = 6 ∨ i = 7 ∨ i = 8 by omega) with rfl | rfl | rfl | rfl | rfl | rfl | rfl | rfl | rfl
 ·exact ⟨_, _, rfl, stack_l0 mx N b g m cap n k0 nms T V f hn hn3 hnm  S, ass6_l0⟩
 ·exact ⟨_, _, rfl, stack_l1 mx N b g m cap n k0 nms T V f hn hn3 hnm hne S, ass6_l1⟩
 ·exact ⟨_, _, rfl, stack_l2 mx N b g m cap n k0 nms T V f hn hn3 hnm hne S, ass6_l2⟩
 ·exact ⟨_, _, rfl, stack_l3 mx N b g m cap n k0 nms T V f hn hn3 hnm hne S, ass6_l3⟩
 ·exact ⟨_, _, rfl, stack_l4 mx N b g m cap n k0 nms T V f hn hn3 hnm (offers_3 hfo hne).1 (offers_3 hfo hne).2 S, ass6_l4⟩
 ·exact ⟨_, _, rfl, stack_l5 mx N b g m cap n k0 nms T V f hn hn3 hnm hne S, ass6_l5⟩
 ·exact ⟨_, _, rfl, stack_l6 mx N b g m cap n k0 nms T V f hn hn3 hnm hne S, ass6_l6⟩
 ·exact ⟨_, _, rfl, stack_l7 mx N b g m cap n k0 nms T V f hn hn3 hnm hne S, ass6_l7⟩
 ·exact ⟨_, _, rfl, stack_l8 mx N b g m cap n k0 nms T V f hn hn3 hnm hne S, ass6_l8⟩
theorem own_zero {α : Type} {f : α → List Value} {E k : Nat} {w : World} {B g o m cap : Nat} {l : List α} (h : OwnsF f E k w B (.slice (some ⟨g, o, none⟩) m cap) l) : o = 0 := by
 rcases h.2 with ⟨e, _⟩ | ⟨g2, cap2, cur, e, _⟩
 ·injection e with e1; cases e1
 ·injection e with e1 _ _; injection e1 with e1; injection e1
def Whole4 (mx : Int) (N b : Nat) (lv : Value) (x : PartD) (k : Nat) (w : World) (v : Value) : Prop :=
 IfaceAt w v (faceN x k) ∧ ∃ T V, v = .iface T V ∧ Stack mx N b lv x.fCore.fKind (x.fLayers.map (·.fName)) k T V (faceN x k) ∧ Ass6 T (faceN x k)
theorem whole4_next {mx : Int} {N b g o m cap k q : Nat} {x : PartD} {w w2 : World} {v : Value} (ho : o = 0) (h : Whole4 mx N b (.slice (some ⟨g, o, none⟩) m cap) x k w v) (hk : k < x.fLayers.length) (h3 : x.fLayers.length ≤ 3) (hq : q < 9) (hnm : (x.fLayers[k]).fName = layN q)
  (hof : offersF (faceN x k) (needN q) = true) (hc : w2.cell? ⟨g, o + k * 2, none⟩ = some (.string ⟨(layN q).toArray⟩)) : Whole4 mx N b (.slice (some ⟨g, o, none⟩) m cap) x (k + 1) w2 (wrapV g (o + k * 2) v q) := by
 subst ho
 simp only [Nat.zero_add] at hc ⊢
 obtain ⟨⟨T0, V0, hv0, hf0, ha0⟩, T, V, rfl, hs, ha⟩ := h
 have hf : faceN x (k + 1) = giveN q := by
  rw [faceN_succ x k hk, hnm]
  rcases (show q = 0 ∨ q = 1 ∨ q = 2 ∨ q = 3 ∨ q = 4 ∨ q = 5 ∨ q = 6 ∨ q = 7 ∨ q = 8 by omega) with rfl | rfl | rfl | rfl | rfl | rfl | rfl | rfl | rfl <;> decide +kernel
 have hn2 : (x.fLayers.map (·.fName)).getD k [] = layN q := by
  rw [List.getD_eq_getElem?_getD, List.getElem?_map, List.getElem?_eq_getElem hk]; simpa using hnm
 unfold Whole4
 rw [hf]
 refine ⟨iface_wrap q hq hc, ?_⟩
 exact stack_wrap mx N b g m cap k _ _ T V _ ha0.face q hq (by simpa using hk) (by omega) hn2 hof hs
set_option maxRecDepth 100000 in
set_option maxHeartbeats 3200000 in
theorem wholePart4_c (mx : Int) (N b0 : Nat) (lv cv : Value) (x : PartD) (w : World) (hR : Ready mx N b0 lv cv x.fCore.fKind (x.fLayers.map (·.fName)) x w) :
  Calls Tryz.prog 108 #[.pointer (some ⟨b0, 0, none⟩)] w fun e w' => (∃ v, e = .returned v ∧ Whole4 mx N b0 lv x x.fLayers.length w' v) ∧ Below w.heap.size w w' := by
 have hp := hR.ok
 have h3l := partB_len hp
 have hbl := hR.st.core.box.lt
 have HLK := Lib.hid (fun k hk => partB_lay hp k hk)
 have HOK := Lib.hid (fun i h y hy => layOk_of x i h y hy)
 obtain ⟨j, hj1, hj2, hj3⟩ := coreB_kindP (partB_core hp)
 have H0 := Lib.hid (show faceN x 0 = kfN j by unfold faceN kfI; rw [hj1, if_neg (by omega)]; rfl)
 have HK := Lib.hid (show w.cell? ⟨b0, 0, none⟩ = some (.string ⟨(kindN j).toArray⟩) by rw [hj3]; exact hR.st.core.box.c0)
 have HPO := Lib.hid (partOf_k j hj2 b0 w HK.out)
 have HOW := Lib.hid hR.st.own
 have H5 := Lib.hid (sliceAt_of_owns cLayer_len hR.st.own (Nat.le_trans h3l (by decide)))
 have H50 := Lib.hid (hR.st.c5)
 have HS0 := Lib.hid (show ∃ T V, partV b0 j = .iface T V ∧ Stack mx N b0 lv x.fCore.fKind (x.fLayers.map (·.fName)) 0 T V (kfN j) ∧ Ass6 T (kfN j) by rw [← hj3]; exact stack_kind mx N b0 lv _ j hj2)
 obtain ⟨sa, sc, rfl⟩ := slice_of hR.st.own
 have HN := Lib.hid (fun (w w2 : World) (v : Value) (g o k q : Nat) ho h hk hq h1 h2 h4 => @whole4_next mx N b0 g o x.fLayers.length sc k q x w w2 v ho h hk h3l hq h1 h2 h4)
 have HW0 := Lib.hid (show ∀ w', Below w.heap.size w w' → Whole4 mx N b0 (.slice sa x.fLayers.length sc) x 0 w' (partV b0 j) from fun w' hb => by
  unfold Whole4
  rw [H0.out]
  exact ⟨iface_kind j hj2 ((hb.cell (p := ⟨b0, 0, none⟩) hbl).trans HK.out), HS0.out⟩)
 have HIF := Lib.hid (show ∀ k w' v, Whole4 mx N b0 (.slice sa x.fLayers.length sc) x k w' v → ∀ w2, Below w'.heap.size w' w2 → Whole4 mx N b0 (.slice sa x.fLayers.length sc) x k w2 v from fun k w' v h w2 hb => ⟨h.1.below hb, h.2⟩)
 generalize hls : x.fLayers = ls at *
 have HL := Lib.hid hls
 generalize partV b0 j = pv at *
 clear hR hp hj1 hj3 HS0 H0 HK hls
 go_enter Tryz.func108, Tryz.ntmps108
 go_wp2_with fail
 refine HPO.out.mono ?_
 rintro e w1 ⟨rfl, hb⟩
 have HB1 := Lib.hid hb
 have HI := Lib.hid (HW0.out w1 hb)
 clear hb HW0
 have e5 := (HB1.out.cell (p := ⟨b0, 5, none⟩) hbl).trans H50.out
 go_wp2_with fail
 clear e5
 go_loopw [3, 4, 14] (fun u3 _ i wr => ∃ k : Nat, k ≤ ls.length ∧ i = .int .i64 k ∧ Whole4 mx N b0 (.slice sa ls.length sc) x k wr u3 ∧ Below w.heap.size w wr) (fun _ _ i _ => ls.length - (intOf i).toNat)
 case atStart => exact ⟨0, Nat.zero_le _, rfl, HI.out, HB1.out⟩
 case round =>
  obtain ⟨k, hk, rfl, ht, hbr⟩ := hrel
  have HT := Lib.hid ht
  have HBr := Lib.hid hbr
  have HXr := Lib.hid (SliceAt.below H5.out (good_flat cLayer_len) hbr (Nat.le_refl _))
  clear ht hbr
  by_cases hlt : k < ls.length
  ·obtain ⟨b, o, cs, rfl, hbw, hat, hd⟩ := sliceAt_cell HXr.out k hlt
   have HZ := Lib.hid (own_zero HOW.out)
   have HO1 := Lib.hid (HLK.out k hlt)
   have HO2 := Lib.hid (HOK.out k hlt _ rfl)
   have d0 := hd 0 (by decide)
   have HNK := Lib.hid (fun w2 q => HN.out wr w2 u3 b o k q HZ.out HT.out hlt)
   generalize ls[k] = z at *
   obtain ⟨z0, z1⟩ := z
   simp only [rFlat, cLayer] at hat
   subst hat
   simp only [List.getElem?_cons_zero, Nat.add_zero] at d0
   have hh := HO1.out
   rw [HO2.out] at hh
   simp only [Bool.and_eq_true, decide_eq_true_iff] at hh
   obtain ⟨⟨hh1, hh2⟩, _⟩ := hh
   obtain ⟨q, hq1, hq2, hq3⟩ : ∃ q : Nat, layI z0 = q ∧ q < 9 ∧ layN q = z0 := by
    rcases layI_bd z0 with h1 | h1
    ·omega
    ·exact h1
   subst hq3
   have hn : needI (layI (layN q)) = needN q := by rw [hq1]; unfold needI; rw [if_neg (by omega)]; rfl
   have HOF := Lib.hid (show offersF (faceN x k) (needN q) = true by rw [← hn]; exact hh2)
   have HW := Lib.hid (wrapIn_c b (o + k * 2) q hq2 u3 (faceN x k) wr d0 HT.out.1)
   have D0 := Lib.hid d0
   have hkc : (k : Int) < (ls.length : Int) := by omega
   have e5 := (HBr.out.cell (p := ⟨b0, 5, none⟩) hbl).trans H50.out
   have HNX := Lib.hid (fun w2 (hb2 : Below wr.heap.size wr w2) => HNK.out w2 q hq2 rfl HOF.out ((hb2.cell (p := ⟨b, o + k * 2, none⟩) hbw).trans D0.out))
   clear hd HXr hh1 hh2 hq1 hn d0 HO1 HO2 HLK HOK HN HNK
   go_wp2_with fail
   refine HW.out.mono ?_
   rintro e w2 ⟨hb2, hres⟩
   obtain rfl : e = .returned (.tuple #[wrapV b (o + k * 2) u3 q, vReply ⟨0, giveN q, [], 0, 0⟩]) := by
    rcases hres with ⟨_, h⟩ | ⟨h, _⟩
    ·exact h
    ·rw [HOF.out] at h; cases h
   have HB2 := Lib.hid (belS HBr.out hb2)
   have HWW := Lib.hid (HNX.out w2 hb2)
   generalize wrapV b (o + k * 2) u3 q = nv at *
   unfold vReply
   clear hb2 hres e5
   go_wp2_with fail
   exact ⟨⟨k + 1, by omega, by go_num, HWW.out, HB2.out⟩, by simp [intOf]; omega⟩
  ·have hk2 : k = ls.length := by omega
   subst hk2
   go_wp2
   go_ret
   exact ⟨⟨u3, rfl, HT.out⟩, HBr.out⟩
def chgP (p : PartD) (x : CallD) : PartD × ReplyD := if (partB p && callB x) = true then dlv p.fLayers.length (faceP p) p x else (p, rC 7)
structure Pre4 (mx : Int) (N b : Nat) (lv cv : Value) (p : PartD) (w : World) : Prop where
 st : PSt N b lv cv p w
 hN : N ≤ w.heap.size
 hm : p.fCore.fCells.length ≤ 2097152
 hl : p.fLayers.length ≤ 2097152
 hk : ∀ c ∈ p.fCore.fCells, c.fKey.length ≤ maxLen
 gN : 0 < N
 hM : w.cell? ⟨0, 0, none⟩ = some (.int .i64 mx)
theorem Pre4.below {mx : Int} {N b : Nat} {lv cv : Value} {p : PartD} {w w' : World} (h : Pre4 mx N b lv cv p w) (hb : Below w.heap.size w w') : Pre4 mx N b lv cv p w' :=
 ⟨h.st.below hb, Nat.le_trans h.hN hb.size, h.hm, h.hl, h.hk, h.gN, (hb.cell (p := ⟨0, 0, none⟩) (Nat.lt_of_lt_of_le h.gN h.hN)).trans h.hM⟩
theorem Pre4.ready {mx : Int} {N b : Nat} {lv cv : Value} {p : PartD} {w : World} (h : Pre4 mx N b lv cv p w) (hp : partB p = true) : Ready mx N b lv cv p.fCore.fKind (p.fLayers.map (·.fName)) p w :=
 ⟨h.st, h.hN, hp, rfl, rfl, h.gN, h.hM⟩
theorem Pre4.part {mx : Int} {N b : Nat} {lv cv : Value} {p : PartD} {w : World} (h : Pre4 mx N b lv cv p w) :
  ValAt rPart 0 w (.agg #[.string ⟨p.fCore.fKind.toArray⟩, .bool p.fCore.fOn, .bool p.fCore.fBroken, cv, .int .i64 p.fCore.fCount, lv]) p :=
 ⟨[.string ⟨p.fCore.fKind.toArray⟩, .bool p.fCore.fOn, .bool p.fCore.fBroken, cv, .int .i64 p.fCore.fCount, lv], rfl, cv, lv, rfl, (sliceAt_of_owns cCell_len h.st.core.own (Nat.le_trans h.hm (by decide))).mono (good_flat cCell_len) (Nat.zero_le _), (sliceAt_of_owns cLayer_len h.st.own (Nat.le_trans h.hl (by decide))).mono (good_flat cLayer_len) (Nat.zero_le _)⟩
theorem wholePart4_t (mx : Int) (N b : Nat) (lv cv : Value) (p : PartD) (x : CallD) (w : World) (hR : Ready mx N b lv cv p.fCore.fKind (p.fLayers.map (·.fName)) p w) (hc : callB x = true) (hk : x.fKey.length ≤ 1048576) (ht : x.fText.length ≤ 1048576) :
  Calls Tryz.prog 108 #[.pointer (some ⟨b, 0, none⟩)] w fun e w' => ∃ T V, e = .returned (.iface T V) ∧ (∀ W, Below w'.heap.size w' W → Calls Tryz.prog 117 #[.iface T V, vCall x] W fun e w'' => Does4 N b lv (dlv p.fLayers.length (faceP p) p x) W e w'') ∧ Below w.heap.size w w' := by
 refine (wholePart4_c mx N b lv cv p w hR).mono ?_
 rintro e w' ⟨⟨v, rfl, ⟨T0, V0, hv, hf, _⟩, T, V, rfl, hs, ha⟩, hb⟩
 injection hv with h1 h2
 subst h1; subst h2
 exact ⟨T, V, rfl, fun W hW => dlv_c mx N b p.fLayers.length lv cv _ _ T V (faceP p) x p W (hR.below (belS hb hW)) (partB_len hR.ok) hs ha (hf.below hW) hc hk ht, hb⟩
set_option maxRecDepth 100000 in
set_option maxHeartbeats 3200000 in
theorem changeP_bad1 (mx : Int) (N b : Nat) (lv cv : Value) (p : PartD) (x : CallD) (w : World) (P : Pre4 mx N b lv cv p w) (hv : partB p = false) :
  Calls Tryz.prog 67 #[.pointer (some ⟨b, 0, none⟩), vCall x] w fun e w' => Does4 N b lv (p, rC 7) w e w' := by
 have HP := Lib.hid P
 have HN := Lib.hid P.hN
 have hbl := P.st.core.box.lt
 obtain ⟨xm, xk, xn, xt⟩ := x
 unfold vCall
 have HB := Lib.hid (belS (bx_box w (.cells #[.string ⟨xm.toArray⟩, .string ⟨xk.toArray⟩, .int .i64 xn, .string ⟨xt.toArray⟩] 43)) (bx_box (w.alloc (.cells #[.string ⟨xm.toArray⟩, .string ⟨xk.toArray⟩, .int .i64 xn, .string ⟨xt.toArray⟩] 43)) (.cells #[.int .i64 0, .int .i64 0, .string ⟨#[]⟩, .int .i64 0, .int .i64 0] 39)))
 have L2 := Lib.hid (Loc.new (w.alloc (.cells #[.string ⟨xm.toArray⟩, .string ⟨xk.toArray⟩, .int .i64 xn, .string ⟨xt.toArray⟩] 43)) [.int .i64 0, .int .i64 0, .string ⟨#[]⟩, .int .i64 0, .int .i64 0] 39)
 rw [show (w.alloc (.cells #[.string ⟨xm.toArray⟩, .string ⟨xk.toArray⟩, .int .i64 xn, .string ⟨xt.toArray⟩] 43)).heap.size = w.heap.size + 1 by simp] at L2
 have n2b : w.heap.size + 1 ≠ b := by omega
 have HIP := Lib.hid (fun W (hw : Below w.heap.size w W) => implIsPart_any _ p W (P.below hw).part P.hk)
 rw [hv] at HIP
 have PW := Lib.hid (P.below HB.out)
 go_enter Tryz.func67, Tryz.ntmps67
 obtain ⟨c0, c1, c2, c3, c4, _, _, _, _⟩ := PW.out.st.core.box
 have c5 := PW.out.st.c5
 clear P
 go_wp2_with fail
 clear c0 c1 c2 c3 c4 c5
 generalize (w.alloc (.cells #[.string ⟨xm.toArray⟩, .string ⟨xk.toArray⟩, .int .i64 xn, .string ⟨xt.toArray⟩] 43)).alloc (.cells #[.int .i64 0, .int .i64 0, .string ⟨#[]⟩, .int .i64 0, .int .i64 0] 39) = w0 at *
 refine (HIP.out _ HB.out).mono ?_
 rintro e w1 ⟨rfl, hb⟩
 have HB1 := Lib.hid (belS HB.out hb)
 replace L2 := Lib.hid (L2.out.below hb)
 clear hb
 have B_r := Lib.hid L2.out.bx
 have r0 := B_r.out.cell 0 (by simp)
 have r1 := B_r.out.cell 1 (by simp)
 have r2 := B_r.out.cell 2 (by simp)
 have r3 := B_r.out.cell 3 (by simp)
 have r4 := B_r.out.cell 4 (by simp)
 simp only [List.getElem_cons_zero, List.getElem_cons_succ] at r0 r1 r2 r3 r4
 have fr0 := B_r.out.froz 0 (by simp)
 have fr1 := B_r.out.froz 1 (by simp)
 have fr2 := B_r.out.froz 2 (by simp)
 have fr3 := B_r.out.froz 3 (by simp)
 have fr4 := B_r.out.froz 4 (by simp)
 have l_r := B_r.out.lt
 go_wp2_with fail
 refine bodyPost_ret (v := vReply (rC 7)) (by simp [results, Tryz.results67, go_sem, vReply, rC, rV, rT, cell_set_at, cell_set_ne, r0, r1, r2, r3, r4]) rfl ?_
 exact done5 (rC 7) (HP.out.st.below HB1.out) (KeptT.of_below HB1.out HN.out) L2.out n2b (by omega) HN.out _ _ _ _ _
set_option maxRecDepth 100000 in
set_option maxHeartbeats 3200000 in
theorem changeP_bad2 (mx : Int) (N b : Nat) (lv cv : Value) (p : PartD) (x : CallD) (w : World) (P : Pre4 mx N b lv cv p w) (hv : partB p = true) (hc : callB x = false) (hk : x.fKey.length ≤ 1048576) :
  Calls Tryz.prog 67 #[.pointer (some ⟨b, 0, none⟩), vCall x] w fun e w' => Does4 N b lv (p, rC 7) w e w' := by
 have HP := Lib.hid P
 have HN := Lib.hid P.hN
 have hbl := P.st.core.box.lt
 have HJ := Lib.hid (fun w' => implIsCall_b x false hc w' (Nat.le_trans hk (by decide)))
 obtain ⟨xm, xk, xn, xt⟩ := x
 unfold vCall at HJ ⊢
 have HB := Lib.hid (belS (bx_box w (.cells #[.string ⟨xm.toArray⟩, .string ⟨xk.toArray⟩, .int .i64 xn, .string ⟨xt.toArray⟩] 43)) (bx_box (w.alloc (.cells #[.string ⟨xm.toArray⟩, .string ⟨xk.toArray⟩, .int .i64 xn, .string ⟨xt.toArray⟩] 43)) (.cells #[.int .i64 0, .int .i64 0, .string ⟨#[]⟩, .int .i64 0, .int .i64 0] 39)))
 have L2 := Lib.hid (Loc.new (w.alloc (.cells #[.string ⟨xm.toArray⟩, .string ⟨xk.toArray⟩, .int .i64 xn, .string ⟨xt.toArray⟩] 43)) [.int .i64 0, .int .i64 0, .string ⟨#[]⟩, .int .i64 0, .int .i64 0] 39)
 have L1 := Lib.hid ((Loc.new w [.string ⟨xm.toArray⟩, .string ⟨xk.toArray⟩, .int .i64 xn, .string ⟨xt.toArray⟩] 43).past (.cells #[.int .i64 0, .int .i64 0, .string ⟨#[]⟩, .int .i64 0, .int .i64 0] 39))
 rw [show (w.alloc (.cells #[.string ⟨xm.toArray⟩, .string ⟨xk.toArray⟩, .int .i64 xn, .string ⟨xt.toArray⟩] 43)).heap.size = w.heap.size + 1 by simp] at L2
 have n2b : w.heap.size + 1 ≠ b := by omega
 have HIP := Lib.hid (fun W (hw : Below w.heap.size w W) => implIsPart_any _ p W (P.below hw).part P.hk)
 rw [hv] at HIP
 have PW := Lib.hid (P.below HB.out)
 go_enter Tryz.func67, Tryz.ntmps67
 obtain ⟨c0, c1, c2, c3, c4, _, _, _, _⟩ := PW.out.st.core.box
 have c5 := PW.out.st.c5
 clear P hc
 go_wp2_with fail
 clear c0 c1 c2 c3 c4 c5
 generalize (w.alloc (.cells #[.string ⟨xm.toArray⟩, .string ⟨xk.toArray⟩, .int .i64 xn, .string ⟨xt.toArray⟩] 43)).alloc (.cells #[.int .i64 0, .int .i64 0, .string ⟨#[]⟩, .int .i64 0, .int .i64 0] 39) = w0 at *
 refine (HIP.out _ HB.out).mono ?_
 rintro e w1 ⟨rfl, hb⟩
 have HB1 := Lib.hid (belS HB.out hb)
 replace L2 := Lib.hid (L2.out.below hb)
 replace L1 := Lib.hid (L1.out.below hb)
 clear hb
 have B_a := Lib.hid L1.out.bx
 have a0 := B_a.out.cell 0 (by simp)
 have a1 := B_a.out.cell 1 (by simp)
 have a2 := B_a.out.cell 2 (by simp)
 have a3 := B_a.out.cell 3 (by simp)
 simp only [List.getElem_cons_zero, List.getElem_cons_succ] at a0 a1 a2 a3
 have l_a := B_a.out.lt
 go_wp2_with fail
 refine (HJ.out _).mono ?_
 rintro e w2 ⟨rfl, hb⟩
 clear B_a l_a a0 a1 a2 a3
 have HB2 := Lib.hid (belS HB1.out hb)
 replace L2 := Lib.hid (L2.out.below hb)
 clear hb
 have B_r := Lib.hid L2.out.bx
 have r0 := B_r.out.cell 0 (by simp)
 have r1 := B_r.out.cell 1 (by simp)
 have r2 := B_r.out.cell 2 (by simp)
 have r3 := B_r.out.cell 3 (by simp)
 have r4 := B_r.out.cell 4 (by simp)
 simp only [List.getElem_cons_zero, List.getElem_cons_succ] at r0 r1 r2 r3 r4
 have fr0 := B_r.out.froz 0 (by simp)
 have fr1 := B_r.out.froz 1 (by simp)
 have fr2 := B_r.out.froz 2 (by simp)
 have fr3 := B_r.out.froz 3 (by simp)
 have fr4 := B_r.out.froz 4 (by simp)
 have l_r := B_r.out.lt
 go_wp2_with fail
 refine bodyPost_ret (v := vReply (rC 7)) (by simp [results, Tryz.results67, go_sem, vReply, rC, rV, rT, cell_set_at, cell_set_ne, r0, r1, r2, r3, r4]) rfl ?_
 exact done5 (rC 7) (HP.out.st.below HB2.out) (KeptT.of_below HB2.out HN.out) L2.out n2b (by omega) HN.out _ _ _ _ _
set_option maxRecDepth 100000 in
set_option maxHeartbeats 3200000 in
theorem changeP_good (mx : Int) (N b : Nat) (lv cv : Value) (p : PartD) (x : CallD) (w : World) (P : Pre4 mx N b lv cv p w) (hv : partB p = true) (hc : callB x = true) (hk : x.fKey.length ≤ 1048576) (ht : x.fText.length ≤ 1048576) :
  Calls Tryz.prog 67 #[.pointer (some ⟨b, 0, none⟩), vCall x] w fun e w' => Does4 N b lv (dlv p.fLayers.length (faceP p) p x) w e w' := by
 have HP := Lib.hid P
 have HN := Lib.hid P.hN
 have hbl := P.st.core.box.lt
 have HWP := Lib.hid (fun W (hw : Below w.heap.size w W) => wholePart4_t mx N b lv cv p x W ((P.below hw).ready hv) hc hk ht)
 have HJ := Lib.hid (fun w' => implIsCall_b x true hc w' (Nat.le_trans hk (by decide)))
 generalize dlv p.fLayers.length (faceP p) p x = out at *
 obtain ⟨q, t0, t1, t2, t3, t4⟩ := out
 obtain ⟨xm, xk, xn, xt⟩ := x
 unfold vCall at HJ HWP ⊢
 have HB := Lib.hid (belS (bx_box w (.cells #[.string ⟨xm.toArray⟩, .string ⟨xk.toArray⟩, .int .i64 xn, .string ⟨xt.toArray⟩] 43)) (bx_box (w.alloc (.cells #[.string ⟨xm.toArray⟩, .string ⟨xk.toArray⟩, .int .i64 xn, .string ⟨xt.toArray⟩] 43)) (.cells #[.int .i64 0, .int .i64 0, .string ⟨#[]⟩, .int .i64 0, .int .i64 0] 39)))
 have L2 := Lib.hid (Loc.new (w.alloc (.cells #[.string ⟨xm.toArray⟩, .string ⟨xk.toArray⟩, .int .i64 xn, .string ⟨xt.toArray⟩] 43)) [.int .i64 0, .int .i64 0, .string ⟨#[]⟩, .int .i64 0, .int .i64 0] 39)
 have L1 := Lib.hid ((Loc.new w [.string ⟨xm.toArray⟩, .string ⟨xk.toArray⟩, .int .i64 xn, .string ⟨xt.toArray⟩] 43).past (.cells #[.int .i64 0, .int .i64 0, .string ⟨#[]⟩, .int .i64 0, .int .i64 0] 39))
 rw [show (w.alloc (.cells #[.string ⟨xm.toArray⟩, .string ⟨xk.toArray⟩, .int .i64 xn, .string ⟨xt.toArray⟩] 43)).heap.size = w.heap.size + 1 by simp] at L2
 have n2b : w.heap.size + 1 ≠ b := by omega
 have HIP := Lib.hid (fun W (hw : Below w.heap.size w W) => implIsPart_any _ p W (P.below hw).part P.hk)
 rw [hv] at HIP
 have PW := Lib.hid (P.below HB.out)
 go_enter Tryz.func67, Tryz.ntmps67
 obtain ⟨c0, c1, c2, c3, c4, _, _, _, _⟩ := PW.out.st.core.box
 have c5 := PW.out.st.c5
 clear P hc
 go_wp2_with fail
 clear c0 c1 c2 c3 c4 c5
 generalize (w.alloc (.cells #[.string ⟨xm.toArray⟩, .string ⟨xk.toArray⟩, .int .i64 xn, .string ⟨xt.toArray⟩] 43)).alloc (.cells #[.int .i64 0, .int .i64 0, .string ⟨#[]⟩, .int .i64 0, .int .i64 0] 39) = w0 at *
 refine (HIP.out _ HB.out).mono ?_
 rintro e w1 ⟨rfl, hb⟩
 have HB1 := Lib.hid (belS HB.out hb)
 replace L2 := Lib.hid (L2.out.below hb)
 replace L1 := Lib.hid (L1.out.below hb)
 clear hb
 have B_a := Lib.hid L1.out.bx
 have a0 := B_a.out.cell 0 (by simp)
 have a1 := B_a.out.cell 1 (by simp)
 have a2 := B_a.out.cell 2 (by simp)
 have a3 := B_a.out.cell 3 (by simp)
 simp only [List.getElem_cons_zero, List.getElem_cons_succ] at a0 a1 a2 a3
 have l_a := B_a.out.lt
 go_wp2_with fail
 refine (HJ.out _).mono ?_
 rintro e w2 ⟨rfl, hb⟩
 clear B_a l_a a0 a1 a2 a3
 have HB2 := Lib.hid (belS HB1.out hb)
 replace L2 := Lib.hid (L2.out.below hb)
 replace L1 := Lib.hid (L1.out.below hb)
 clear hb
 have B_a := Lib.hid L1.out.bx
 have a0 := B_a.out.cell 0 (by simp)
 have a1 := B_a.out.cell 1 (by simp)
 have a2 := B_a.out.cell 2 (by simp)
 have a3 := B_a.out.cell 3 (by simp)
 simp only [List.getElem_cons_zero, List.getElem_cons_succ] at a0 a1 a2 a3
 have l_a := B_a.out.lt
 go_wp2_with fail
 go_region_with (first
  |(go_at_call 108; refine (HWP.out w2.drew HB2.out.drew).mono ?_; rintro e w3 ⟨T, V, rfl, hq3, hb3⟩; have HB3 := Lib.hid (show Below w2.heap.size w2 w3 from ⟨hb3.os, hb3.tape, hb3.output, hb3.size, hb3.block⟩); have HQ3 := Lib.hid hq3; have L13 := Lib.hid (L1.out.below HB3.out); have L23 := Lib.hid (L2.out.below HB3.out); clear hb3 hq3; have u0 := L13.out.bx.cell 0 (by simp); have u1 := L13.out.bx.cell 1 (by simp); have u2 := L13.out.bx.cell 2 (by simp); have u3 := L13.out.bx.cell 3 (by simp); simp only [List.getElem_cons_zero, List.getElem_cons_succ] at u0 u1 u2 u3)
  |(go_at_call 117; refine (HQ3.out w3 (Below.refl _ _)).mono ?_; rintro e w4 ⟨rfl, cv4, hs4, hk4⟩; have L24 := Lib.hid (L23.out.stays hk4 n2b (by decide) (by decide)); have HK4 := Lib.hid (KeptT.ahead (belS HB2.out HB3.out) HN.out hk4); have HS4 := Lib.hid hs4; clear hs4 hk4; unfold vReply; simp only; have r0 := L24.out.bx.cell 0 (by simp); have r1 := L24.out.bx.cell 1 (by simp); have r2 := L24.out.bx.cell 2 (by simp); have r3 := L24.out.bx.cell 3 (by simp); have r4 := L24.out.bx.cell 4 (by simp); simp only [List.getElem_cons_zero, List.getElem_cons_succ] at r0 r1 r2 r3 r4; have f0 := L24.out.bx.froz 0 (by simp); have f1 := L24.out.bx.froz 1 (by simp); have f2 := L24.out.bx.froz 2 (by simp); have f3 := L24.out.bx.froz 3 (by simp); have f4 := L24.out.bx.froz 4 (by simp)))
 all_goals
  go_wp2_with fail
  refine bodyPost_ret (v := .agg #[.int .i64 t0, .int .i64 t1, .string ⟨t2.toArray⟩, .int .i64 t3, .int .i64 t4]) (by simp [results, Tryz.results67, go_sem, cell_set_at, cell_set_ne, r0, r1, r2, r3, r4]) rfl ?_
  exact done5 ⟨t0, t1, t2, t3, t4⟩ HS4.out HK4.out L24.out n2b (by omega) HN.out _ _ _ _ _
theorem changePart_c (mx : Int) (N b : Nat) (lv cv : Value) (p : PartD) (x : CallD) (w : World) (P : Pre4 mx N b lv cv p w) (hk : x.fKey.length ≤ 1048576) (ht : x.fText.length ≤ 1048576) :
  Calls Tryz.prog 67 #[.pointer (some ⟨b, 0, none⟩), vCall x] w fun e w' => Does4 N b lv (chgP p x) w e w' := by
 unfold chgP
 cases hv : partB p with
 | false => simp only [Bool.false_and, Bool.false_eq_true, if_false]; exact changeP_bad1 mx N b lv cv p x w P hv
 | true =>
  cases hc : callB x with
  | false => simp only [Bool.and_false, Bool.false_eq_true, if_false]; exact changeP_bad2 mx N b lv cv p x w P hv hc hk
  | true => simp only [Bool.and_self, if_true]; exact changeP_good mx N b lv cv p x w P hv hc hk ht
theorem getD_app {α : Type} (l ys : List α) (d : α) (i : Nat) (h : i < l.length) : (l ++ ys).getD i d = l.getD i d := by
 rw [List.getD_eq_getElem?_getD, List.getD_eq_getElem?_getD, List.getElem?_append_left h]
theorem faceN_app (c : CoreD) (ls ys : List LayerD) (i : Nat) (h : i ≤ ls.length) : faceN ⟨c, ls ++ ys⟩ i = faceN ⟨c, ls⟩ i := by
 cases i with
 | zero => rfl
 | succ i =>
  show giveI (layI ((ls ++ ys).getD i default).fName) = giveI (layI (ls.getD i default).fName)
  rw [getD_app _ _ _ _ (by omega)]
theorem layOk_app (c : CoreD) (ls ys : List LayerD) (i : Nat) (h : i < ls.length) : layOk ⟨c, ls ++ ys⟩ i = layOk ⟨c, ls⟩ i := by
 unfold layOk
 rw [faceN_app c ls ys i (by omega)]
 simp only
 rw [getD_app _ _ _ _ h]
theorem wrapI_zero {p : PartD} {s : List UInt8} (h : wrapI p s = 0) : partB p = true ∧ 0 ≤ layI s ∧ p.fLayers.length ≠ 3 ∧ offersF (faceP p) (needI (layI s)) = true := by
 unfold wrapI at h
 by_cases h1 : partB p = true ∧ 0 ≤ layI s
 ·rw [if_pos h1] at h
  by_cases h2 : p.fLayers.length = 3
  ·rw [if_pos h2] at h; cases h
  ·rw [if_neg h2] at h
   by_cases h3 : offersF (faceP p) (needI (layI s)) = true
   ·exact ⟨h1.1, h1.2, h2, h3⟩
   ·rw [if_neg h3] at h; cases h
 ·rw [if_neg h1] at h; cases h
theorem wrapP_zero {p : PartD} {s : List UInt8} (h : wrapI p s = 0) : wrapP p s = ⟨p.fCore, p.fLayers ++ [⟨s, 0⟩]⟩ := by unfold wrapP; rw [if_pos h]
theorem wrap_part {p : PartD} {s : List UInt8} (h : wrapI p s = 0) : partB (wrapP p s) = true := by
 obtain ⟨h1, h2, h3, h4⟩ := wrapI_zero h
 rw [wrapP_zero h]
 obtain ⟨c, ls⟩ := p
 simp only at h3 ⊢
 have hc := partB_core h1
 have hl := partB_len h1
 have hk := partB_lay h1
 simp only at hc hl hk
 unfold partB
 rw [Bool.and_eq_true, Bool.and_eq_true]
 refine ⟨⟨hc, decide_eq_true (by simp; omega)⟩, ?_⟩
 unfold layTo
 rw [List.all_eq_true]
 intro i hi
 rw [List.mem_range] at hi
 simp only [List.length_append, List.length_cons, List.length_nil] at hi
 by_cases hlt : i < ls.length
 ·rw [layOk_app c ls _ i hlt]; exact hk i hlt
 ·obtain rfl : i = ls.length := by omega
  rw [layOk_of ⟨c, ls ++ [(⟨s, 0⟩ : LayerD)]⟩ ls.length (by simp) (⟨s, 0⟩ : LayerD) (by simp), faceN_app c ls _ _ (Nat.le_refl _)]
  rw [Bool.and_eq_true, Bool.and_eq_true]
  refine ⟨⟨decide_eq_true h2, h4⟩, ?_⟩
  unfold cntB
  split
  ·show numB 0 = true
   decide
  ·rfl
end Go.Proofs.YtcpbikilgacdlaaGreat
namespace Go.Proofs.YtcpbikilgacdlaaGreat
set_option linter.unusedVariables false
open Go.RowKit
theorem offers_iff {f w : Int} (hf : isF f = true) (hw : isF w = true) : offersF f w = true ↔ ∀ j, j < 6 → hasI w j = true → hasI f j = true := by
 unfold offersF lackF
 rw [if_pos ⟨hf, hw⟩, hf, hw]
 simp only [Bool.and_self, Bool.true_and, beq_iff_eq]
 rw [madeK_zero]
 refine ⟨fun h j hj hj2 => ?_, fun h j hj => ?_⟩
 ·have := h j hj
  unfold lackP at this
  rw [hj2] at this
  simpa using this
 ·unfold lackP
  cases hx : hasI w j with
  | false => rfl
  | true => rw [h j hj hx]; rfl
theorem offers_trans {a b c : Int} (ha : isF a = true) (hb : isF b = true) (hc : isF c = true) (h1 : offersF a b = true) (h2 : offersF b c = true) : offersF a c = true :=
 (offers_iff ha hc).2 fun j hj h => (offers_iff ha hb).1 h1 j hj ((offers_iff hb hc).1 h2 j hj h)
end Go.Proofs.YtcpbikilgacdlaaGreat
namespace Go.Proofs.YtcpbikilgacdlaaGreat
set_option linter.unusedVariables false
set_option linter.unusedSimpArgs false
open Go.RowKit
def appP (p : PartD) (ys : List LayerD) : PartD := ⟨p.fCore, p.fLayers ++ ys⟩
theorem nmL_app (p : PartD) (ys : List LayerD) (n : Nat) (h : n < p.fLayers.length) : nmL (appP p ys) n = nmL p n := by unfold nmL appP; rw [getD_app _ _ _ _ h]
theorem cntL_app (p : PartD) (ys : List LayerD) (n : Nat) (h : n < p.fLayers.length) : cntL (appP p ys) n = cntL p n := by unfold cntL appP; rw [getD_app _ _ _ _ h]
theorem updL_app (p : PartD) (ys : List LayerD) (n : Nat) (h : n < p.fLayers.length) : updL (appP p ys) n = appP (updL p n) ys := by
 unfold updL appP
 simp only
 rw [getD_app _ _ _ _ h, List.set_append_left _ _ h]
theorem lyDo_app (ys : List LayerD) : ∀ (n : Nat) (p : PartD) (x : CallD), n ≤ p.fLayers.length → lyDo n (appP p ys) x = (appP (lyDo n p x).1 ys, (lyDo n p x).2) := by
 intro n
 induction n with
 | zero => intro p x _; rfl
 | succ n ih =>
  intro p x hn
  have hn' : n < p.fLayers.length := by omega
  have hL : ∀ q y, (lyDo n q y).1.fLayers.length = q.fLayers.length := fun q y => lyDo_len n q y
  have hU : ∀ q m, (updL q m).fLayers.length = q.fLayers.length := fun q m => by unfold updL; simp
  have hu : ∀ q, q.fLayers.length = p.fLayers.length → updL (appP q ys) n = appP (updL q n) ys := fun q e => updL_app q ys n (by omega)
  have h1 : ∀ q y, q.fLayers.length = p.fLayers.length → lyDo n (appP q ys) y = (appP (lyDo n q y).1 ys, (lyDo n q y).2) := fun q y e => ih q y (by omega)
  unfold lyDo
  rw [nmL_app p ys n hn']
  split
  ·rw [cntL_app p ys n hn']
  split
  ·rw [h1 p x rfl]; simp only; rw [hu _ (hL _ _)]
  split
  ·rw [h1 p x rfl]; simp only
   split
   ·rw [h1 _ _ (hL _ _)]; simp only; rw [h1 _ _ (by rw [hL, hL])]
   ·rfl
  split
  ·rfl
  split
  ·rw [hu p rfl]
   split
   ·rw [cntL_app _ ys n (by rw [hU]; exact hn')]
   ·exact h1 _ _ (hU _ _)
  split
  ·rw [h1 p _ rfl]; simp only; exact h1 _ _ (hL _ _)
  split
  ·rw [h1 p x rfl]
  ·exact h1 p x rfl
theorem faceN_face (p : PartD) (n : Nat) : isF (faceN p n) = true := by
 cases n with
 | zero => exact kfI_face _
 | succ n => show isF (giveI _) = true; unfold giveI; split; rfl; exact giveN_face _
theorem lay_of {p : PartD} (hp : partB p = true) (n : Nat) (hn : n < p.fLayers.length) : ∃ q : Nat, q < 9 ∧ nmL p n = layN q ∧ faceN p (n + 1) = giveN q ∧ offersF (faceN p n) (needN q) = true := by
 have h := partB_lay hp n hn
 unfold layOk at h
 simp only [Bool.and_eq_true, decide_eq_true_iff] at h
 obtain ⟨⟨h1, h2⟩, _⟩ := h
 have e : (p.fLayers.getD n default).fName = nmL p n := rfl
 rw [e] at h1 h2
 rcases layI_bd (nmL p n) with h3 | ⟨q, h3, h4, h5⟩
 ·omega
 ·refine ⟨q, h4, h5.symm, ?_, ?_⟩
  ·rw [faceN_succ p n hn]
   have e2 : (p.fLayers[n]).fName = nmL p n := by unfold nmL; rw [List.getD_eq_getElem?_getD, List.getElem?_eq_getElem hn]; rfl
   rw [e2, h3]; unfold giveI; rw [if_neg (by omega)]; rfl
  ·rw [h3] at h2; unfold needI at h2; rw [if_neg (by omega)] at h2; exact h2
def mtN4 : Nat → List UInt8
 | 0 => mStart | 1 => mStop | 2 => mGet | 3 => mPut | 4 => mTell | 5 => mHear | 6 => mLoad | 7 => mSave | _ => mHeal
theorem pass_of : ∀ (q : _root_.Fin 9) (j : _root_.Fin 9), offersF (giveN q) (wantF (mtN4 j)) = true → ownB (layN q) (mtN4 j) = true ∨ offersF (needN q) (wantF (mtN4 j)) = true := by decide +kernel
theorem mth_of {x : CallD} (h : callB x = true) : ∃ j : _root_.Fin 9, x.fMethod = mtN4 j := by
 rcases callB_meth h with ⟨h, _⟩ | ⟨h, _⟩ | ⟨h, _⟩ | ⟨h, _⟩ | ⟨h, _⟩ | ⟨h, _⟩ | ⟨h, _⟩ | ⟨h, _⟩ | ⟨h, _⟩
 ·exact ⟨0, h⟩
 ·exact ⟨1, h⟩
 ·exact ⟨2, h⟩
 ·exact ⟨3, h⟩
 ·exact ⟨4, h⟩
 ·exact ⟨5, h⟩
 ·exact ⟨6, h⟩
 ·exact ⟨7, h⟩
 ·exact ⟨8, h⟩
theorem want_face : ∀ j : _root_.Fin 9, isF (wantF (mtN4 j)) = true := by decide +kernel
theorem pass_x {p : PartD} (hp : partB p = true) (n : Nat) (hn : n < p.fLayers.length) {x : CallD} (hx : callB x = true) (ho : offersF (faceN p (n + 1)) (wantF x.fMethod) = true) (hb : ownB (nmL p n) x.fMethod = false) : offersF (faceN p n) (wantF x.fMethod) = true := by
 obtain ⟨q, hq, h1, h2, h3⟩ := lay_of hp n hn
 obtain ⟨j, hj⟩ := mth_of hx
 rw [h2, hj] at ho
 rw [h1, hj] at hb
 rcases pass_of ⟨q, hq⟩ j ho with h4 | h4
 ·rw [hb] at h4; cases h4
 ·rw [hj]; exact offers_trans (faceN_face _ _) (needN_face _) (want_face j) h3 h4
theorem layN_inj : ∀ q : _root_.Fin 9, (layN q = nCounts → (q : Nat) = 3) ∧ (layN q = nLazy → (q : Nat) = 4) ∧ (layN q = nReads → (q : Nat) = 5) ∧ (layN q = nHears → (q : Nat) = 6) ∧ (layN q = nHeals → (q : Nat) = 7) ∧ (layN q = nTwice → (q : Nat) = 8) := by decide +kernel
theorem below_off {p : PartD} (hp : partB p = true) (n : Nat) (hn : n < p.fLayers.length) :
  (nmL p n = nCounts → offersF (faceN p n) 2 = true) ∧ (nmL p n = nLazy → offersF (faceN p n) 1 = true ∧ offersF (faceN p n) 2 = true ∧ offersF (faceN p n) 3 = true) ∧ (nmL p n = nHears → offersF (faceN p n) 1 = true) ∧ (nmL p n = nHeals → offersF (faceN p n) 1 = true) ∧ (nmL p n = nTwice → offersF (faceN p n) 4 = true) := by
 obtain ⟨q, hq, h1, h2, h3⟩ := lay_of hp n hn
 obtain ⟨i1, i2, i3, i4, i5, i6⟩ := layN_inj ⟨q, hq⟩
 have T : ∀ W, isF W = true → offersF (needN q) W = true → offersF (faceN p n) W = true := fun W hW h => offers_trans (faceN_face _ _) (needN_face _) hW h3 h
 rw [h1]
 refine ⟨fun h => ?_, fun h => ?_, fun h => ?_, fun h => ?_, fun h => ?_⟩
 ·have := i1 h; simp only at this; subst this; exact T 2 (by decide) (by decide +kernel)
 ·have := i2 h; simp only at this; subst this; exact ⟨T 1 (by decide) (by decide +kernel), T 2 (by decide) (by decide +kernel), T 3 (by decide) (by decide +kernel)⟩
 ·have := i4 h; simp only at this; subst this; exact T 1 (by decide) (by decide +kernel)
 ·have := i5 h; simp only at this; subst this; exact T 1 (by decide) (by decide +kernel)
 ·have := i6 h; simp only at this; subst this; exact T 4 (by decide) (by decide +kernel)
theorem start_ok : callB (cX mStart) = true := by decide
theorem stop_ok : callB (cX mStop) = true := by decide
theorem tell_ok : callB (cX mTell) = true := by decide
theorem want_kept {m : List UInt8} (h : keptB m = true) : wantF m = 2 := by
 unfold keptB at h
 rw [Bool.or_eq_true, beq_iff_eq, beq_iff_eq] at h
 rcases h with rfl | rfl <;> decide +kernel
theorem ownB_no {nm m : List UInt8} (h1 : ¬ (nm = nCounts ∧ m = mTell)) (h2 : ¬ (nm = nCounts ∧ keptB m = true)) (h3 : ¬ (nm = nLazy ∧ keptB m = true)) (h4 : ¬ (nm = nReads ∧ m = mPut)) (h5 : ¬ (nm = nHears ∧ m = mHear)) (h6 : ¬ (nm = nHeals ∧ m = mHeal)) (h7 : ¬ (nm = nTwice ∧ m = mTell)) : ownB nm m = false := by
 cases h : ownB nm m with
 | false => rfl
 | true =>
  unfold ownB at h
  simp only [Bool.or_eq_true, Bool.and_eq_true, beq_iff_eq] at h
  rcases h with ((((⟨a, b | b⟩ | ⟨a, b⟩) | ⟨a, b⟩) | ⟨a, b⟩) | ⟨a, b⟩) | ⟨a, b⟩
  ·exact absurd ⟨a, b⟩ h1
  ·exact absurd ⟨a, b⟩ h2
  ·exact absurd ⟨a, b⟩ h3
  ·exact absurd ⟨a, b⟩ h4
  ·exact absurd ⟨a, b⟩ h5
  ·exact absurd ⟨a, b⟩ h6
  ·exact absurd ⟨a, b⟩ h7
theorem lyDo_face (n : Nat) (p : PartD) (x : CallD) (m : Nat) : faceN (lyDo n p x).1 m = faceN p m := faceN_map (lyDo_names n p x).1 (lyDo_names n p x).2 m
theorem updL_face (p : PartD) (n m : Nat) : faceN (updL p n) m = faceN p m := faceN_map (names_upd p n) rfl m
theorem updL_len (p : PartD) (n : Nat) : (updL p n).fLayers.length = p.fLayers.length := by unfold updL; simp
theorem lyDo_code : ∀ (n : Nat) (p : PartD) (x : CallD), n ≤ p.fLayers.length → partB p = true → callB x = true → offersF (faceN p n) (wantF x.fMethod) = true → (lyDo n p x).2.fCode ≠ 1 ∧ (lyDo n p x).2.fCode ≠ 7 ∧ (x.fMethod = mTell → (lyDo n p x).2.fCode = 0) := by
 intro n
 induction n with
 | zero =>
  intro p x _ hp hx ho
  show (doD p.fCore x).2.fCode ≠ 1 ∧ (doD p.fCore x).2.fCode ≠ 7 ∧ (x.fMethod = mTell → (doD p.fCore x).2.fCode = 0)
  rw [doD_good (partB_core hp) hx ho]
  exact ⟨(mthD_code _ _).1, (mthD_code _ _).2, fun h => by rw [mthD_Tell h]; rfl⟩
 | succ n ih =>
  intro p x hn hp hx ho
  have hn' : n < p.fLayers.length := by omega
  obtain ⟨o1, o2, o3, o4, o5⟩ := below_off hp n hn'
  have hL : ∀ q y, (lyDo n q y).1.fLayers.length = q.fLayers.length := fun q y => lyDo_len n q y
  have hP : ∀ q y, q.fLayers.length = p.fLayers.length → partB q = true → partB (lyDo n q y).1 = true := fun q y e h => lyDo_part n q y (by omega) h
  unfold lyDo
  split
  ·exact ⟨show (0 : Int) ≠ 1 by decide, show (0 : Int) ≠ 7 by decide, fun _ => rfl⟩
  split
  ·rename_i h; exact ih p x (by omega) hp hx (by rw [want_kept h.2]; exact o1 h.1)
  split
  ·rename_i h
   have ho2 : offersF (faceN p n) (wantF x.fMethod) = true := by rw [want_kept h.2]; exact (o2 h.1).2.1
   split
   ·exact ih _ x (by rw [hL, hL]; omega) (hP _ _ (hL _ _) (hP _ _ rfl hp)) hx (by rw [lyDo_face, lyDo_face]; exact ho2)
   ·exact ih p x (by omega) hp hx ho2
  split
  ·rename_i h; exact ⟨show (6 : Int) ≠ 1 by decide, show (6 : Int) ≠ 7 by decide, fun e => absurd (h.2.symm.trans e) (by decide)⟩
  split
  ·rename_i h
   have hu : partB (updL p n) = true := upd_part hp n hn' (by rw [h.1]; exact hears_counted)
   have hm : ¬ x.fMethod = mTell := fun e => absurd (h.2.symm.trans e) (by decide)
   split
   ·exact ⟨show (0 : Int) ≠ 1 by decide, show (0 : Int) ≠ 7 by decide, fun e => absurd e hm⟩
   ·split
    ·have h2 := ih (updL p n) (cX mStop) (by rw [updL_len]; omega) hu stop_ok (by rw [updL_face]; exact o3 h.1)
     exact ⟨h2.1, h2.2.1, fun e => absurd e hm⟩
    ·have h2 := ih (updL p n) (cX mStart) (by rw [updL_len]; omega) hu start_ok (by rw [updL_face]; exact o3 h.1)
     exact ⟨h2.1, h2.2.1, fun e => absurd e hm⟩
  split
  ·rename_i h
   have hm : ¬ x.fMethod = mTell := fun e => absurd (h.2.symm.trans e) (by decide)
   have h2 := ih (lyDo n p (cX mStop)).1 (cX mStart) (by rw [hL]; omega) (hP _ _ rfl hp) start_ok (by rw [lyDo_face]; exact o4 h.1)
   exact ⟨h2.1, h2.2.1, fun e => absurd e hm⟩
  split
  ·rename_i h
   have h2 := ih p x (by omega) hp hx (by rw [h.2]; exact o5 h.1)
   have e : ∀ r : ReplyD, (twR r).fCode = r.fCode := fun r => by unfold twR; split <;> rfl
   simp only [e]; exact h2
  ·rename_i h1 h2 h3 h4 h5 h6 h7
   exact ih p x (by omega) hp hx (pass_x hp n hn' hx ho (ownB_no h1 h2 h3 h4 h5 h6 h7))
theorem chg_no {p : PartD} {x : CallD} (h1 : partB p = true) (h2 : callB x = true) (h3 : offersF (faceP p) (wantF x.fMethod) = false) : chgP p x = (p, ⟨1, 0, [], wantF x.fMethod, faceP p⟩) := by
 unfold chgP; rw [if_pos (by rw [h1, h2]; rfl)]; unfold dlv; rw [if_neg (by rw [h3]; decide)]
theorem chg_yes {p : PartD} {x : CallD} (h1 : partB p = true) (h2 : callB x = true) (h3 : offersF (faceP p) (wantF x.fMethod) = true) : chgP p x = lyDo p.fLayers.length p x := by
 unfold chgP; rw [if_pos (by rw [h1, h2]; rfl)]; unfold dlv; rw [if_pos h3]
theorem chg_names (p : PartD) (x : CallD) : (chgP p x).1.fLayers.map (·.fName) = p.fLayers.map (·.fName) ∧ (chgP p x).1.fCore.fKind = p.fCore.fKind := by
 unfold chgP
 split
 ·unfold dlv
  split
  ·exact lyDo_names _ _ _
  ·exact ⟨rfl, rfl⟩
 ·exact ⟨rfl, rfl⟩
theorem chg_len (p : PartD) (x : CallD) : (chgP p x).1.fLayers.length = p.fLayers.length := by have := congrArg List.length (chg_names p x).1; simpa using this
theorem chg_face (p : PartD) (x : CallD) : faceP (chgP p x).1 = faceP p := by unfold faceP; rw [chg_len]; exact faceN_map (chg_names p x).1 (chg_names p x).2 _
theorem chg_part {p : PartD} (x : CallD) (h : partB p = true) : partB (chgP p x).1 = true := by
 unfold chgP
 split
 ·unfold dlv
  split
  ·exact lyDo_part _ _ _ (Nat.le_refl _) h
  ·exact h
 ·exact h
structure WrapQ (p : PartD) (s : List UInt8) (j : Nat) : Prop where
 part : partB p = true
 off : offersF (faceP p) (needN j) = true
 eq : wrapP p s = appP p [⟨s, 0⟩]
 len : p.fLayers.length ≠ 3
 qpart : partB (wrapP p s) = true
 qface : faceP (wrapP p s) = giveN j
 qlen : (wrapP p s).fLayers.length = p.fLayers.length + 1
 qnm : nmL (wrapP p s) p.fLayers.length = s
 qcnt : cntL (wrapP p s) p.fLayers.length = 0
theorem wrapQ_of {p : PartD} {s : List UInt8} {j : Nat} (h : wrapI p s = 0) (hj : layI s = j) : WrapQ p s j := by
 obtain ⟨h1, h2, h3, h4⟩ := wrapI_zero h
 have e := wrapP_zero h
 have en : needI (layI s) = needN j := by rw [hj]; unfold needI; rw [if_neg (by omega)]; rfl
 have eg : giveI (layI s) = giveN j := by rw [hj]; unfold giveI; rw [if_neg (by omega)]; rfl
 refine ⟨h1, by rw [← en]; exact h4, e, h3, wrap_part h, ?_, by rw [e]; simp, ?_, ?_⟩
 ·rw [e, ← eg]
  have e2 : faceP ⟨p.fCore, p.fLayers ++ [(⟨s, 0⟩ : LayerD)]⟩ = faceN ⟨p.fCore, p.fLayers ++ [(⟨s, 0⟩ : LayerD)]⟩ (p.fLayers.length + 1) := by unfold faceP; simp only [List.length_append, List.length_cons, List.length_nil]
  rw [e2, faceN_succ _ _ (by simp)]
  simp
 ·rw [e]; unfold nmL; simp [List.getD_eq_getElem?_getD]
 ·rw [e]; unfold cntL; simp [List.getD_eq_getElem?_getD]
theorem tell_want : wantF mTell = 4 := by decide +kernel
theorem lay_twice : layI nTwice = (8 : Nat) := by decide +kernel
theorem lay_counts : layI nCounts = (3 : Nat) := by decide +kernel
theorem lay_lazy : layI nLazy = (4 : Nat) := by decide +kernel
theorem twice_law {p : PartD} (h : wrapI p nTwice = 0) : (chgP p (cX mTell)).2.fCode = 0 ∧ (chgP (wrapP p nTwice) (cX mTell)).2 = twR (chgP p (cX mTell)).2 ∧ 0 ≤ (chgP p (cX mTell)).2.fValue ∧ (chgP p (cX mTell)).2.fValue ≤ 999 := by
 have w := wrapQ_of h lay_twice
 have hw : wantF (cX mTell).fMethod = 4 := tell_want
 have ho : offersF (faceP p) (wantF (cX mTell).fMethod) = true := by rw [hw]; exact w.off
 have hoq : offersF (faceP (wrapP p nTwice)) (wantF (cX mTell).fMethod) = true := by rw [hw, w.qface]; decide +kernel
 have e1 := chg_yes w.part tell_ok ho
 have e2 := chg_yes w.qpart tell_ok hoq
 have hcd := lyDo_code p.fLayers.length p (cX mTell) (Nat.le_refl _) w.part tell_ok ho
 have ht := lyDo_tell p.fLayers.length p (cX mTell) rfl (Nat.le_refl _) w.part
 rw [e1, e2]
 refine ⟨hcd.2.2 rfl, ?_, ht.1, ht.2⟩
 rw [w.qlen]
 have hq : lyDo (p.fLayers.length + 1) (wrapP p nTwice) (cX mTell) = ((lyDo p.fLayers.length (wrapP p nTwice) (cX mTell)).1, twR (lyDo p.fLayers.length (wrapP p nTwice) (cX mTell)).2) := by
  show (if _ then _ else if _ then _ else if _ then _ else if _ then _ else if _ then _ else if _ then _ else if _ then _ else _) = _
  rw [w.qnm]
  rw [if_neg (by decide), if_neg (by decide), if_neg (by decide), if_neg (by decide), if_neg (by decide), if_neg (by decide), if_pos (by decide)]
 rw [hq, w.eq, lyDo_app _ _ _ _ (Nat.le_refl _)]
theorem twR_val {r : ReplyD} (h : r.fCode = 0) (h2 : r.fValue ≤ 999) : (twR r).fCode = 0 ∧ (999 < 2 * r.fValue → (twR r).fValue = 999) ∧ (¬ 999 < 2 * r.fValue → (twR r).fValue = 2 * r.fValue) := by
 unfold twR
 rw [if_pos h]
 refine ⟨h, fun h3 => ?_, fun h3 => ?_⟩
 ·simp only; rw [if_neg (by omega)]
 ·simp only; split <;> omega
end Go.Proofs.YtcpbikilgacdlaaGreat
