package wire

import (
	"gavel/api"
	"gavel/code"
	"gavel/part"
)

// StampText tells what a replica signs of its stamp.
func StampText(x api.Stamp) []byte {
	return part.StampFields(begin("stamp"), x).Bytes()
}

// AckText tells what a replica signs of its ack.
func AckText(x api.Ack) []byte {
	return part.AckFields(begin("ack"), x).Bytes()
}

// PromiseText tells what a replica signs of its promise.
func PromiseText(x api.Promise) []byte {
	return part.PromiseFields(begin("promise"), x).Bytes()
}

// DenyText tells what a replica signs of its denial.
func DenyText(x api.Deny) []byte {
	return part.DenyFields(begin("deny"), x).Bytes()
}

// ProposalText tells what a replica signs of its proposal. The batch is in it by its hash alone.
func ProposalText(x api.Proposal) []byte {
	return part.ProposalHead(begin("proposal"), x).Hash(BatchHash(x.Batch)).Bytes()
}

// VoteText tells what a replica signs of its vote.
func VoteText(x api.Vote) []byte {
	return part.VoteFields(begin("vote"), x).Bytes()
}

// begin begins what is signed. The word is in front, so that nothing that is signed for one thing is right for another.
func begin(word string) *code.Writer {
	return code.NewWriter().Row([]byte(word))
}
