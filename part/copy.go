package part

import (
	"bytes"
	"slices"

	"gavel/api"
)

// CopyCert copies a certificate.
func CopyCert(x api.Cert) api.Cert {
	x.Stamps = slices.Clone(x.Stamps)
	return x
}

// CopyPromise copies a promise.
func CopyPromise(x api.Promise) api.Promise {
	x.Certs = copyList(x.Certs, CopyCert)
	return x
}

// CopyOpening copies an opening.
func CopyOpening(x api.Opening) api.Opening {
	x.Payload = bytes.Clone(x.Payload)
	return x
}

// CopyBatch copies a batch.
func CopyBatch(x api.Batch) api.Batch {
	x.Promises = copyList(x.Promises, CopyPromise)
	x.Openings = copyList(x.Openings, CopyOpening)
	x.Tombs = copyList(x.Tombs, copyTomb)
	return x
}

// CopyProposal copies a proposal.
func CopyProposal(x api.Proposal) api.Proposal {
	x.Batch = CopyBatch(x.Batch)
	return x
}

// CopyDecided copies a batch that was decided.
func CopyDecided(x api.Decided) api.Decided {
	x.Batch = CopyBatch(x.Batch)
	x.Votes = slices.Clone(x.Votes)
	return x
}

// copyTomb copies a tombstone.
func copyTomb(x api.Tomb) api.Tomb {
	x.Denies = slices.Clone(x.Denies)
	return x
}
