/- Plain mathematics of rows of bytes: nothing of any program. -/
namespace Go.Proofs.Ytjampleddeidaaa

end Go.Proofs.Ytjampleddeidaaa
