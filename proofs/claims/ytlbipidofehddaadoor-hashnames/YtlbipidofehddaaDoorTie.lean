/-
  DERIVED. GIVEN WITH THE SEED: THE PROGRAM's TIES (one call each: nine closed facts by the kernel) AND EACH ROW's TIE, after the 31st guide's Derived/Test/Toyas{Tie, Card}.lean. No idea stands in it: it is a product of the set-up. Laid BY PROGRAM, IN A SANDBOX (cutbox-door.mjs). By AI agents, Wed Nov 11 2026. No macro, syntax, notation, axiom, sorry.
-/
import Derived.Test.YtlbipidofehddaaDoorRows
import Derived.LaidByTextLater
import Derived.SevenTiedAt
import Derived.LaidSub
import Derived.LaidOnce
namespace Go.Proofs.YtlbipidofehddaaDoor
open Go
set_option maxRecDepth 100000
theorem seatTie1 : Tryd.prog.laidByTextLater [("sconce/sha256.start", Rows.laid_sconce_sha256_start), ("sconce/sha256.roundWords", Rows.laid_sconce_sha256_roundWords), ("sconce/sha512.start", Rows.laid_sconce_sha512_start), ("sconce/sha512.shortStart", Rows.laid_sconce_sha512_shortStart), ("sconce/sha512.roundWords", Rows.laid_sconce_sha512_roundWords), ("sconce/hash.names", Rows.laid_sconce_hash_names)] [.data, .data, .data, .data, .data, .data] true :=
  Program.laidByTextLater_by_one 39 8 81 (by kernel_rfl) (by kernel_rfl) (by kernel_rfl) (by kernel_rfl) (by kernel_rfl) (by kernel_rfl) (fun _ _ => by kernel_rfl)
theorem noOwnUnsafe : Tryd.pinned.checked.prog.headLifts.contains "ownunsafe" = false := by kernel_rfl
theorem tie : Tryd.prog.laidByTextLater [("sconce/sha256.start", Rows.laid_sconce_sha256_start), ("sconce/sha256.roundWords", Rows.laid_sconce_sha256_roundWords), ("sconce/sha512.start", Rows.laid_sconce_sha512_start), ("sconce/sha512.shortStart", Rows.laid_sconce_sha512_shortStart), ("sconce/sha512.roundWords", Rows.laid_sconce_sha512_roundWords), ("sconce/hash.names", Rows.laid_sconce_hash_names)] [.data, .data, .data, .data, .data, .data] true :=
  Program.laidByTextLater.sub seatTie1 ["sconce/sha256.start", "sconce/sha256.roundWords", "sconce/sha512.start", "sconce/sha512.shortStart", "sconce/sha512.roundWords", "sconce/hash.names"] (by kernel_rfl) (by kernel_rfl)
theorem hashSums_row_tie : Rows.hashSumsRow.laidByTextAt .later Tryd.pinned [.data, .data, .data, .data, .data, .data] true :=
  OpenClaim.laidByTextAt_later rfl rfl tie noOwnUnsafe
theorem tie2 : Tryd.prog.laidByTextLater [("sconce/hash.names", Rows.laid_sconce_hash_names)] [.data] true :=
  Program.laidByTextLater.sub seatTie1 ["sconce/hash.names"] (by kernel_rfl) (by kernel_rfl)
theorem hashNames_row_tie : Rows.hashNamesRow.laidByTextAt .later Tryd.pinned [.data] true :=
  OpenClaim.laidByTextAt_later rfl rfl tie2 noOwnUnsafe
theorem hashPrefixes_row_tie : Rows.hashPrefixesRow.laidByTextAt .later Tryd.pinned [.data] true :=
  OpenClaim.laidByTextAt_later rfl rfl tie2 noOwnUnsafe
theorem hashSumsUpto_row_tie : Rows.hashSumsUptoRow.laidByTextAt .later Tryd.pinned [.data, .data, .data, .data, .data, .data] true :=
  OpenClaim.laidByTextAt_later rfl rfl tie noOwnUnsafe
theorem hashNamesUpto_row_tie : Rows.hashNamesUptoRow.laidByTextAt .later Tryd.pinned [.data] true :=
  OpenClaim.laidByTextAt_later rfl rfl tie2 noOwnUnsafe
theorem hashPrefixesUpto_row_tie : Rows.hashPrefixesUptoRow.laidByTextAt .later Tryd.pinned [.data] true :=
  OpenClaim.laidByTextAt_later rfl rfl tie2 noOwnUnsafe
end Go.Proofs.YtlbipidofehddaaDoor
