package part

import (
	"gavel/api"
	"gavel/code"
)

// What a replica signs of a part are all its fields but the signature, in the order of its bytes: a Fields call writes these. (Of a proposal a Head call writes what stands ahead of the batch, which is signed by its hash alone.)

// StampFields writes what a replica signs of its stamp.
func StampFields(w *code.Writer, x api.Stamp) *code.Writer {
	return PutName(w.Int(x.Replica), x.Name).Hash(x.Hash).Num(x.Time)
}

// PutStamp writes a stamp.
func PutStamp(w *code.Writer, x api.Stamp) *code.Writer {
	return PutSig(StampFields(w, x), x.Sig)
}

// GetStamp reads a stamp.
func GetStamp(r *code.Reader) api.Stamp {
	return api.Stamp{Replica: GetInt(r), Name: GetName(r), Hash: r.Hash(), Time: r.Num(), Sig: GetSig(r)}
}

// AckFields writes what a replica signs of its ack.
func AckFields(w *code.Writer, x api.Ack) *code.Writer {
	return PutName(w.Int(x.Replica), x.Name).Hash(x.Hash).Num(x.Median)
}

// PutAck writes an ack.
func PutAck(w *code.Writer, x api.Ack) *code.Writer {
	return PutSig(AckFields(w, x), x.Sig)
}

// GetAck reads an ack.
func GetAck(r *code.Reader) api.Ack {
	return api.Ack{Replica: GetInt(r), Name: GetName(r), Hash: r.Hash(), Median: r.Num(), Sig: GetSig(r)}
}

// PromiseFields writes what a replica signs of its promise: the certificates with the signatures within them.
func PromiseFields(w *code.Writer, x api.Promise) *code.Writer {
	return putList(w.Int(x.Replica).Int(x.Epoch).Num(x.Floor), PutCert, x.Certs)
}

// PutPromise writes a promise.
func PutPromise(w *code.Writer, x api.Promise) *code.Writer {
	return PutSig(PromiseFields(w, x), x.Sig)
}

// GetPromise reads a promise.
func GetPromise(r *code.Reader) api.Promise {
	return api.Promise{Replica: GetInt(r), Epoch: GetInt(r), Floor: r.Num(), Certs: getList(r, GetCert), Sig: GetSig(r)}
}

// DenyFields writes what a replica signs of its denial.
func DenyFields(w *code.Writer, x api.Deny) *code.Writer {
	return w.Int(x.Replica).Int(x.Index)
}

// PutDeny writes a denial.
func PutDeny(w *code.Writer, x api.Deny) *code.Writer {
	return PutSig(DenyFields(w, x), x.Sig)
}

// GetDeny reads a denial.
func GetDeny(r *code.Reader) api.Deny {
	return api.Deny{Replica: GetInt(r), Index: GetInt(r), Sig: GetSig(r)}
}

// ProposalHead writes what stands in a proposal ahead of its batch.
func ProposalHead(w *code.Writer, x api.Proposal) *code.Writer {
	return w.Int(x.Epoch).Int(x.Round).Num(oneMore(x.Valid)).Int(x.Replica)
}

// PutProposal writes a proposal.
func PutProposal(w *code.Writer, x api.Proposal) *code.Writer {
	return PutSig(PutBatch(ProposalHead(w, x), x.Batch), x.Sig)
}

// GetProposal reads a proposal. The bound is one of the number that is read: Valid is one less.
func GetProposal(r *code.Reader) api.Proposal {
	return api.Proposal{Epoch: GetInt(r), Round: GetInt(r), Valid: GetInt(r) - 1, Replica: GetInt(r), Batch: GetBatch(r), Sig: GetSig(r)}
}

// oneMore is n + 1, below 0: 0. Unsigned, as one more than the greatest int is no int.
func oneMore(n int) uint64 {
	if n < 0 {
		return 0
	}
	return uint64(n) + 1
}

// VoteFields writes what a replica signs of its vote.
func VoteFields(w *code.Writer, x api.Vote) *code.Writer {
	return w.Int(x.Kind).Int(x.Epoch).Int(x.Round).Int(x.Replica).Hash(x.Hash)
}

// PutVote writes a vote.
func PutVote(w *code.Writer, x api.Vote) *code.Writer {
	return PutSig(VoteFields(w, x), x.Sig)
}

// GetVote reads a vote.
func GetVote(r *code.Reader) api.Vote {
	return api.Vote{Kind: GetInt(r), Epoch: GetInt(r), Round: GetInt(r), Replica: GetInt(r), Hash: r.Hash(), Sig: GetSig(r)}
}
