/- The model's 'Allow'. -/
import Derived.Test.YtcjbenmbenkcpaaLiS1
import Derived.Test.YtcjbenmbenkcpaaLiS2
namespace Go.Proofs.Ytcjbenmbenkcpaa
open Go.RowKit
theorem specAllow_any (bs : List Bk) (n : Nat) (hn : bs.length = n) (hn2 : n ≤ 1048576) (a : Option Addr) (cap : Nat) (m s now : Int) (q : Bk) (w : World) (ha : HB w a bs) (hnow : now ≤ 9223372036854775807) :
    Calls Try.prog 8 #[.agg #[.int .i64 m, .int .i64 s, .slice a n cap], .agg (Iv .u8 q.key), .int .i64 now] w fun e w' => AllowOut w m s bs q now e w' := by
  by_cases hsw : 1000000000 < now - s
  · exact specAllow_yes bs n hn hn2 a cap m s now q w ha hnow hsw
  · exact specAllow_no bs n hn hn2 a cap m s now q w ha hnow hsw
end Go.Proofs.Ytcjbenmbenkcpaa
