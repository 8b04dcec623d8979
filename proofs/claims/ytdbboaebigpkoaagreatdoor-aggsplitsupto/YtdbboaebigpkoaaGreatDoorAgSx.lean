import Derived.Test.YtdbboaebigpkoaaGreatDoorAgSz
import Derived.Test.YtdbboaebigpkoaaGreatDoorAgSt
namespace Go.Proofs.YtdbboaebigpkoaaGreatDoor

theorem aggSplitsUpto_card : Rows.AggSplitsUptoCardSaid := aggSplitsUpto_card_of sortsV
end Go.Proofs.YtdbboaebigpkoaaGreatDoor
