package raft

import (
	"slices"

	"tallyhouse/api"
	"tallyhouse/conf"
	"tallyhouse/log"
)

// within tells whether a number is from least to most.
func within[N int | uint64](n, least, most N) bool {
	return n >= least && n <= most
}

// mayBe asks for what lasts ahead of what hangs on it: of a log that may not be there is no last index.
func mayBe(r api.Raft) bool {
	return lastsMayBe(r) && countsMayBe(r) && roleMayBe(r)
}

func lastsMayBe(r api.Raft) bool {
	return within(r.Me, 1, api.MaxMembers) && within(r.Vote, 0, api.MaxMembers) && r.Term <= api.MaxTerm &&
		log.Check(r.Log, r.Term) == api.OK && sayMembers(r.Log.Entries) && conf.Check(r.Conf) == api.OK
}

// sayMembers tells whether each EntConf among entries says members.
func sayMembers(entries []api.Entry) bool {
	for _, e := range entries {
		if e.Kind == api.EntConf && !says(e.Data) {
			return false
		}
	}
	return true
}

// says tells whether data say members.
func says(data []byte) bool {
	_, err := conf.Decode(data)
	return err == api.OK
}

func countsMayBe(r api.Raft) bool {
	return within(r.Leader, 0, api.MaxMembers) && within(r.Commit, r.Log.Base.Index, log.Last(r.Log).Index) &&
		within(r.Limit, api.MinLimit, api.MaxLimit) && within(r.Clock, 0, r.Limit)
}

func roleMayBe(r api.Raft) bool {
	elected := r.Vote == r.Me && r.Term > 0
	switch r.Role {
	case api.RoleFollower:
		return r.Leader != r.Me && len(r.Votes) == 0 && len(r.Peers) == 0
	case api.RoleStanding:
		return elected && r.Leader == 0 && votesMayBe(r) && len(r.Peers) == 0
	case api.RoleLeading:
		return elected && r.Leader == r.Me && len(r.Votes) == 0 && peersMayBe(r)
	}
	return false
}

// votesMayBe leaves to conf what votes have in common with members; of those that may not be none is one.
func votesMayBe(r api.Raft) bool {
	return conf.Has(api.Conf{Members: r.Votes}, r.Me)
}

func peersMayBe(r api.Raft) bool {
	right := func(p, fresh api.Peer) bool {
		return p.Who == fresh.Who && within(p.Next, 1, fresh.Next) && p.Match < p.Next && within(p.Quiet, 0, api.MaxLimit)
	}
	return slices.EqualFunc(r.Peers, freshPeers(r), right)
}

// freshPeers are the peers of one who has just come to lead: nobody can have a Next that is above theirs.
func freshPeers(r api.Raft) []api.Peer {
	var peers []api.Peer
	next := log.Last(r.Log).Index + 1
	for who := 1; who <= api.MaxMembers; who++ {
		if who != r.Me {
			peers = append(peers, api.Peer{Who: who, Next: next})
		}
	}
	return peers
}
