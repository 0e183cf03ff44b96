/-
  Contracts of the kit's shelf, laid at this translation in plain words by its own tool.
-/
import Derived.Shelf.SortM.Plain
import Derived.Shelf.SortM.SortNone
import Derived.Ground.SlgmProg
import Derived.Shelf.SlGeneric
import Derived.Test.YtjhlammjnggghaaProg
namespace Go.Proofs.Ytjhlammjnggghaa
open Go.Shelf
def Try.laySort_ren : Go.Shelf.Ren := ⟨fun | 5 => 227 | 8 => 249 | 7 => 248 | 19 => 270 | 20 => 271 | 10 => 261 | 11 => 262 | 12 => 263 | 13 => 264 | 14 => 265 | 15 => 266 | 16 => 267 | 17 => 268 | 18 => 269 | 30 => 274 | 31 => 275 | 32 => 276 | 33 => 277 | 34 => 278 | 35 => 187 | 40 => 280 | n => n, fun | 23 => 72 | 25 => 3 | 3 => 3 | 32 => 248 | 22 => 72 | 0 => 0 | 44 => 283 | 46 => 285 | 4 => 4 | 36 => 275 | 35 => 274 | 41 => 280 | 5 => 5 | 9 => 9 | 53 => 290 | 57 => 294 | 63 => 296 | 64 => 297 | n => n, fun | n => n⟩
theorem Try.laySort : Go.Proofs.SlLaysM.n5 Try.prog Try.laySort_ren := {
  mixed := by kernel_rfl
  f5 := ⟨Try.f227.name, by decide, Try.func227.trans (congrArg some (by kernel_rfl))⟩
  f7 := ⟨Try.f248.name, by decide, Try.func248.trans (congrArg some (by kernel_rfl))⟩
  f8 := Try.func249.trans (congrArg some (by kernel_rfl))
  f10 := ⟨Try.f261.name, by decide, Try.func261.trans (congrArg some (by kernel_rfl))⟩
  f11 := ⟨Try.f262.name, by decide, Try.func262.trans (congrArg some (by kernel_rfl))⟩
  f12 := ⟨Try.f263.name, by decide, Try.func263.trans (congrArg some (by kernel_rfl))⟩
  f13 := ⟨Try.f264.name, by decide, Try.func264.trans (congrArg some (by kernel_rfl))⟩
  f14 := ⟨Try.f265.name, by decide, Try.func265.trans (congrArg some (by kernel_rfl))⟩
  f15 := ⟨Try.f266.name, by decide, Try.func266.trans (congrArg some (by kernel_rfl))⟩
  f16 := ⟨Try.f267.name, by decide, Try.func267.trans (congrArg some (by kernel_rfl))⟩
  f17 := ⟨Try.f268.name, by decide, Try.func268.trans (congrArg some (by kernel_rfl))⟩
  f18 := ⟨Try.f269.name, by decide, Try.func269.trans (congrArg some (by kernel_rfl))⟩
  f19 := Try.func270.trans (congrArg some (by kernel_rfl))
  f20 := Try.func271.trans (congrArg some (by kernel_rfl))
  f30 := ⟨Try.f274.name, by decide, Try.func274.trans (congrArg some (by kernel_rfl))⟩
  f31 := Try.func275.trans (congrArg some (by kernel_rfl))
  f32 := Try.func276.trans (congrArg some (by kernel_rfl))
  f33 := ⟨Try.f277.name, by decide, Try.func277.trans (congrArg some (by kernel_rfl))⟩
  f34 := ⟨Try.f278.name, by decide, Try.func278.trans (congrArg some (by kernel_rfl))⟩
  f35 := ⟨Try.f187.name, by decide, Try.func187.trans (congrArg some (by kernel_rfl))⟩
  f40 := ⟨Try.f280.name, by decide, Try.func280.trans (congrArg some (by kernel_rfl))⟩
  t0 := Try.underlying0
  a0 := Try.isAgg0
  z0 := Try.sizeOf0
  v0 := Try.zeroValue0
  t3 := Try.underlying3
  a3 := Try.isAgg3
  z3 := Try.sizeOf3
  v3 := Try.zeroValue3
  t4 := Try.underlying4
  a4 := Try.isAgg4
  z4 := Try.sizeOf4
  v4 := Try.zeroValue4
  t5 := Try.underlying5
  a5 := Try.isAgg5
  z5 := Try.sizeOf5
  v5 := Try.zeroValue5
  t9 := Try.underlying9
  a9 := Try.isAgg9
  z9 := Try.sizeOf9
  v9 := Try.zeroValue9
  t22 := Try.underlying72
  a22 := Try.isAgg72
  z22 := Try.sizeOf72
  v22 := Try.zeroValue72
  t23 := Try.underlying72
  a23 := Try.isAgg72
  z23 := Try.sizeOf72
  v23 := Try.zeroValue72
  t25 := Try.underlying3
  a25 := Try.isAgg3
  z25 := Try.sizeOf3
  v25 := Try.zeroValue3
  t32 := Try.underlying248
  a32 := Try.isAgg248
  z32 := Try.sizeOf248
  v32 := Try.zeroValue248
  t35 := Try.underlying274
  a35 := Try.isAgg274
  z35 := Try.sizeOf274
  v35 := Try.zeroValue274
  t36 := Try.underlying275
  a36 := Try.isAgg275
  z36 := Try.sizeOf275
  v36 := Try.zeroValue275
  t41 := Try.underlying280
  a41 := Try.isAgg280
  z41 := Try.sizeOf280
  v41 := Try.zeroValue280
  t44 := Try.underlying283
  a44 := Try.isAgg283
  z44 := Try.sizeOf283
  v44 := Try.zeroValue283
  t46 := Try.underlying285
  a46 := Try.isAgg285
  z46 := Try.sizeOf285
  v46 := Try.zeroValue285
  t53 := Try.underlying290
  a53 := Try.isAgg290
  z53 := Try.sizeOf290
  v53 := Try.zeroValue290
  t57 := Try.underlying294
  a57 := Try.isAgg294
  z57 := Try.sizeOf294
  v57 := Try.zeroValue294
  t63 := Try.underlying296
  a63 := Try.isAgg296
  z63 := Try.sizeOf296
  v63 := Try.zeroValue296
  t64 := Try.underlying297
  a64 := Try.isAgg297
  z64 := Try.sizeOf297
  v64 := Try.zeroValue297 }
end Go.Proofs.Ytjhlammjnggghaa
