package part

import (
	"gavel/api"
	"gavel/code"
)

// What a replica signs of a part are all its fields but the signature, in the order of its bytes: a Fields call writes these.

// StampFields writes what a replica signs of its stamp.
func StampFields(w *code.Writer, x api.Stamp) *code.Writer {
	return PutName(w.Int(x.Replica), x.Name).Hash(x.Hash).Num(x.Time)
}

// PutStamp writes a stamp.
func PutStamp(w *code.Writer, x api.Stamp) *code.Writer {
	return PutSig(StampFields(w, x), x.Sig)
}

// GetStamp reads a stamp.
func GetStamp(r *code.Reader) api.Stamp {
	return api.Stamp{Replica: getInt(r), Name: GetName(r), Hash: r.Hash(), Time: r.Num(), Sig: GetSig(r)}
}

// PromiseFields writes what a replica signs of its promise: the certificates with the signatures within them.
func PromiseFields(w *code.Writer, x api.Promise) *code.Writer {
	return putList(w.Int(x.Replica).Int(x.Epoch).Num(x.Floor), PutCert, x.Certs)
}

// PutPromise writes a promise.
func PutPromise(w *code.Writer, x api.Promise) *code.Writer {
	return PutSig(PromiseFields(w, x), x.Sig)
}

// GetPromise reads a promise.
func GetPromise(r *code.Reader) api.Promise {
	return api.Promise{Replica: getInt(r), Epoch: getInt(r), Floor: r.Num(), Certs: getList(r, GetCert), Sig: GetSig(r)}
}

// DenyFields writes what a replica signs of its denial.
func DenyFields(w *code.Writer, x api.Deny) *code.Writer {
	return w.Int(x.Replica).Int(x.Index)
}

// PutDeny writes a denial.
func PutDeny(w *code.Writer, x api.Deny) *code.Writer {
	return PutSig(DenyFields(w, x), x.Sig)
}

// GetDeny reads a denial.
func GetDeny(r *code.Reader) api.Deny {
	return api.Deny{Replica: getInt(r), Index: getInt(r), Sig: GetSig(r)}
}

// VoteFields writes what a replica signs of its vote.
func VoteFields(w *code.Writer, x api.Vote) *code.Writer {
	return w.Int(x.Kind).Int(x.Epoch).Int(x.Round).Int(x.Replica).Hash(x.Hash)
}

// PutVote writes a vote.
func PutVote(w *code.Writer, x api.Vote) *code.Writer {
	return PutSig(VoteFields(w, x), x.Sig)
}

// GetVote reads a vote.
func GetVote(r *code.Reader) api.Vote {
	return api.Vote{Kind: getInt(r), Epoch: getInt(r), Round: getInt(r), Replica: getInt(r), Hash: r.Hash(), Sig: GetSig(r)}
}
