// Package part: the bytes of all parts that messages are made of. Package wire hands out the greater ones alone; the packages that write or read the others take them from here.
//
// A Put call writes behind what the writer has, and returns it. A Get call reads the same back; what it answers counts only if the reader has not failed then. A Copy call tells the same part in new memory (there is none for parts without lists: to assign them is to copy them).
package part

import (
	"gavel/api"
	"gavel/code"
)

// In a Get call the fields stand in the order of their bytes: the readers' calls are made from left to right.

// PutSig writes a signature.
func PutSig(w *code.Writer, x api.Sig) *code.Writer {
	return w.Int(x.By).Int(x.Mark)
}

// GetSig reads a signature.
func GetSig(r *code.Reader) api.Sig {
	return api.Sig{By: GetInt(r), Mark: GetInt(r)}
}

// PutName writes a request's name.
func PutName(w *code.Writer, x api.Name) *code.Writer {
	return w.Int(x.Client).Int(x.Seq)
}

// GetName reads a request's name.
func GetName(r *code.Reader) api.Name {
	return api.Name{Client: GetInt(r), Seq: GetInt(r)}
}

// PutCommit writes a commitment.
func PutCommit(w *code.Writer, x api.Commit) *code.Writer {
	return PutSig(PutName(w, x.Name).Hash(x.Hash).Int(x.Len), x.Sig)
}

// GetCommit reads a commitment.
func GetCommit(r *code.Reader) api.Commit {
	return api.Commit{Name: GetName(r), Hash: r.Hash(), Len: GetInt(r), Sig: GetSig(r)}
}

// PutCert writes a certificate.
func PutCert(w *code.Writer, x api.Cert) *code.Writer {
	return putList(PutCommit(w, x.Commit), PutStamp, x.Stamps)
}

// GetCert reads a certificate.
func GetCert(r *code.Reader) api.Cert {
	return api.Cert{Commit: GetCommit(r), Stamps: getList(r, GetStamp)}
}

// PutOpening writes an opening.
func PutOpening(w *code.Writer, x api.Opening) *code.Writer {
	return w.Int(x.Index).Row(x.Payload).Hash(x.Nonce)
}

// GetOpening reads an opening.
func GetOpening(r *code.Reader) api.Opening {
	return api.Opening{Index: GetInt(r), Payload: r.Row(api.MaxPayload), Nonce: r.Hash()}
}

// PutBatch writes a batch.
func PutBatch(w *code.Writer, x api.Batch) *code.Writer {
	w.Int(x.Epoch).Num(x.Time)
	putList(w, PutPromise, x.Promises)
	putList(w, PutOpening, x.Openings)
	return putList(w, putTomb, x.Tombs)
}

// GetBatch reads a batch.
func GetBatch(r *code.Reader) api.Batch {
	return api.Batch{
		Epoch:    GetInt(r),
		Time:     r.Num(),
		Promises: getList(r, GetPromise),
		Openings: getList(r, GetOpening),
		Tombs:    getList(r, getTomb),
	}
}

// putTomb writes a tombstone.
func putTomb(w *code.Writer, x api.Tomb) *code.Writer {
	return putList(w.Int(x.Index), PutDeny, x.Denies)
}

// getTomb reads a tombstone.
func getTomb(r *code.Reader) api.Tomb {
	return api.Tomb{Index: GetInt(r), Denies: getList(r, GetDeny)}
}

// PutDecided writes a batch that was decided.
func PutDecided(w *code.Writer, x api.Decided) *code.Writer {
	return putList(PutBatch(w.Int(x.Epoch).Int(x.Round), x.Batch), PutVote, x.Votes)
}

// GetDecided reads a batch that was decided.
func GetDecided(r *code.Reader) api.Decided {
	return api.Decided{Epoch: GetInt(r), Round: GetInt(r), Batch: GetBatch(r), Votes: getList(r, GetVote)}
}

// PutEntry writes a place in the log.
func PutEntry(w *code.Writer, x api.Entry) *code.Writer {
	return PutName(w, x.Name).Hash(x.Hash).Num(x.Time)
}

// GetEntry reads a place in the log.
func GetEntry(r *code.Reader) api.Entry {
	return api.Entry{Name: GetName(r), Hash: r.Hash(), Time: r.Num()}
}
