import Derived.Test.YtppmhihlmkjmbaaGreatDoorAgSz
import Derived.Test.YtppmhihlmkjmbaaGreatDoorAgSt
namespace Go.Proofs.YtppmhihlmkjmbaaGreatDoor

theorem aggSplitsUpto_card : Rows.AggSplitsUptoCardSaid := aggSplitsUpto_card_of sortsV
end Go.Proofs.YtppmhihlmkjmbaaGreatDoor
