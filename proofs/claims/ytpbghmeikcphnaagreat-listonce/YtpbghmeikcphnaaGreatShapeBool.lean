import Derived.Test.YtpbghmeikcphnaaGreatShapeInts
namespace Go.Proofs.YtpbghmeikcphnaaGreat
open Go.ChangeShapes Go.WideShapes Go.ChangeAt Go.RowKit
set_option maxRecDepth 20000 in
theorem KH {H:Type} {enc:TypeId × Value->H} {W:World} {base:Nat} {v:Value} {d:DataW H} {p:List MemPlace} (hv:Value.okWide Tryz.prog W .any base 4 v) (h:DataW.Trod enc Tryz.prog W 0 (fun _=>true) true 4 v d p):∃ b,v=.bool b:=by
 obtain⟨b,rfl,_⟩:=open_bool Tryz.underlying4 hv h
 exact⟨b,rfl⟩
end Go.Proofs.YtpbghmeikcphnaaGreat
