import Derived.WalkKit
namespace Go.Proofs.YtgehjolndmgffaaGreat
abbrev iV (x:Int):Value := .int .i64 x
abbrev pP (b o:Nat):Value := .pointer (some ⟨b,o,none⟩)
abbrev eV (t n k m g p r:Int) (P:Nat) (who:Int):Value := .agg #[.int .i64 t,.int .i64 n,.int .i64 k,.int .i64 m,.int .i64 g,.int .i64 p,.int .i64 r,.pointer (some ⟨P,0,none⟩),.int .i64 who]
abbrev eO (t n k m g p r:Int) (P:Nat) (who:Int):Obj := .cells #[.int .i64 t,.int .i64 n,.int .i64 k,.int .i64 m,.int .i64 g,.int .i64 p,.int .i64 r,.pointer (some ⟨P,0,none⟩),.int .i64 who] 28
end Go.Proofs.YtgehjolndmgffaaGreat
