import Derived.Test.YtbkndnmglhghlaaGreatDoorKMd
set_option maxRecDepth 100000
set_option maxHeartbeats 4000000

namespace Go.Proofs.YtbkndnmglhghlaaGreatDoor
def uS (_:Tp.M) (_:Tp.Bs):List Tp.Bs:=[]
end Go.Proofs.YtbkndnmglhghlaaGreatDoor
