package group

import (
	"armoire/api"
	"armoire/disk"
)

// Disk is a node's disk, for tests that let it fall at a Write, or lay strange things on it.
func (g *Group) Disk(id int) *disk.Disk { return g.nodes[id].disk }

// Kept is what the raft node of a node that is up has to keep.
func (g *Group) Kept(id int) api.Log { return g.nodes[id].life.raft.Log() }

// Under is the messages that are under way.
func (g *Group) Under() []api.Msg { return g.msgs }
