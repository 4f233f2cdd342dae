// Package faces holds each layer's calls against the signatures that its chapter lists: it does not build if one is missing or another one.
package faces

import (
	"testing"

	"wharfinger/access"
	"wharfinger/api"
	"wharfinger/args"
	"wharfinger/attrs"
	"wharfinger/cache"
	"wharfinger/calls"
	"wharfinger/change"
	"wharfinger/classify"
	"wharfinger/codec"
	"wharfinger/creds"
	"wharfinger/guard"
	"wharfinger/handles"
	"wharfinger/journal"
	"wharfinger/look"
	"wharfinger/marks"
	"wharfinger/nodes"
	"wharfinger/opaque"
	"wharfinger/pages"
	"wharfinger/replies"
	"wharfinger/results"
	"wharfinger/script"
	"wharfinger/server"
	"wharfinger/strings"
	"wharfinger/times"
	"wharfinger/words"
)

// Layers 1 to 4: bytes of a form.
var (
	_ func(uint32) []byte              = words.Put
	_ func([]byte) (uint32, api.Errno) = words.Get
	_ func(uint64) []byte              = words.PutLong
	_ func([]byte) (uint64, api.Errno) = words.GetLong
	_ func(bool) []byte                = words.PutYes
	_ func([]byte) (bool, api.Errno)   = words.GetYes

	_ func(int) int                              = opaque.Pad
	_ func([]byte) []byte                        = opaque.Put
	_ func([]byte, int) ([]byte, int, api.Errno) = opaque.Get
	_ func([]byte) []byte                        = opaque.PutFixed
	_ func([]byte, int) ([]byte, int, api.Errno) = opaque.GetFixed

	_ func(string) []byte                        = strings.Put
	_ func([]byte, int) (string, int, api.Errno) = strings.Get
	_ func(string) api.Stat                      = strings.Name
	_ func(string) api.Stat                      = strings.Path

	_ func([]byte) ([]byte, api.Errno)        = marks.Put
	_ func([]byte, int) ([]byte, api.Errno)   = marks.Cut
	_ func([]byte) ([]byte, int, api.Errno)   = marks.Get
	_ func([]byte) ([][]byte, int, api.Errno) = marks.All
)

// Layers 5 to 13: what messages say.
var (
	_ func(uint32, string, api.Cred) ([]byte, api.Errno)          = creds.Put
	_ func([]byte) (uint32, string, api.Cred, api.Errno)          = creds.Get
	_ func(api.Cred, uint32) bool                                 = creds.In
	_ func() api.Cred                                             = creds.Nobody
	_ func(api.Call) ([]byte, api.Errno)                          = calls.Put
	_ func([]byte) (api.Call, api.Errno)                          = calls.Get
	_ func(api.Reply) ([]byte, api.Errno)                         = replies.Put
	_ func([]byte) (api.Reply, api.Errno)                         = replies.Get
	_ func(api.Handle) ([]byte, api.Errno)                        = handles.Put
	_ func([]byte) (api.Handle, api.Errno)                        = handles.Get
	_ func(api.Time) bool                                         = times.Check
	_ func(a, b api.Time) bool                                    = times.Less
	_ func(api.Time, uint64) (api.Time, api.Errno)                = times.Add
	_ func(api.Time) []byte                                       = times.Put
	_ func([]byte) (api.Time, api.Errno)                          = times.Get
	_ func(api.Attrs) ([]byte, api.Errno)                         = attrs.Put
	_ func([]byte) (api.Attrs, int, api.Errno)                    = attrs.Get
	_ func(api.Set) ([]byte, api.Errno)                           = attrs.PutSet
	_ func([]byte) (api.Set, int, api.Errno)                      = attrs.GetSet
	_ func(api.Weak) ([]byte, api.Errno)                          = attrs.PutWeak
	_ func([]byte) (api.Weak, int, api.Errno)                     = attrs.GetWeak
	_ func(api.Args) ([]byte, api.Errno)                          = args.Put
	_ func(api.Proc, []byte) (api.Args, api.Errno)                = args.Get
	_ func(api.Result) ([]byte, api.Errno)                        = results.Put
	_ func(api.Proc, []byte) (api.Result, api.Errno)              = results.Get
	_ func([]byte) (classify.Kind, api.Reply, api.Call, api.Args) = classify.Message
	_ func([]byte) bool                                           = classify.Sure
)

// does is how every procedure is done.
type does = func(api.Tree, api.Cred, api.Args, api.World) (api.Tree, api.Result)

// Layers 14 to 19: the tree, and what is done with it.
var (
	_ func(api.Time) api.Tree                                                = nodes.New
	_ func(api.Tree) bool                                                    = nodes.Check
	_ func(api.Tree, []byte) (int, api.Stat)                                 = nodes.Find
	_ func(api.Tree, int) ([]byte, api.Errno)                                = nodes.Handle
	_ func(api.Tree, int, string) int                                        = nodes.Entry
	_ func(api.Tree, int) (api.Attrs, bool)                                  = nodes.Attrs
	_ func(api.Tree, int, int) bool                                          = nodes.Within
	_ func(api.Tree, int, api.Cred, uint32) uint32                           = access.Bits
	_ func(api.Tree, int, api.Cred, uint32) bool                             = access.May
	_ func(api.Tree, int, api.Cred) bool                                     = access.Owns
	_ func(api.Tree, int, api.Cred, api.Set, api.World) (api.Tree, api.Stat) = guard.Set
	_ func(before, after api.Tree, n int) api.Weak                           = guard.Weak
	_ func(api.Proc) bool                                                    = look.Does
	_ does                                                                   = look.Do
	_ func(api.Proc) bool                                                    = change.Does
	_ does                                                                   = change.Do
	_ does                                                                   = pages.Do
)

// Layers 20 to 24: the disk, the cache, the server and its scripts.
var (
	_ func(api.Tree) ([]byte, api.Errno)      = codec.Put
	_ func([]byte) (api.Tree, int, api.Errno) = codec.Get
	_ func([]byte) uint32                     = codec.Sum

	_ func(int, api.Time) ([]byte, api.Errno)              = journal.Format
	_ func([]byte) (*journal.Journal, api.Errno)           = journal.Open
	_ func(*journal.Journal, api.Tree) api.Errno           = (*journal.Journal).Keep
	_ func(*journal.Journal) api.Tree                      = (*journal.Journal).Tree
	_ func(*journal.Journal) uint64                        = (*journal.Journal).Opened
	_ func(*journal.Journal) []byte                        = (*journal.Journal).Disk
	_ func(*journal.Journal, int, int) ([]byte, api.Errno) = (*journal.Journal).Crash

	_ func(int) (*cache.Cache, api.Errno)                  = cache.New
	_ func(*cache.Cache, uint64, []byte) ([]byte, bool)    = (*cache.Cache).Find
	_ func(*cache.Cache, uint64, []byte, []byte) api.Errno = (*cache.Cache).Add
	_ func(*cache.Cache) int                               = (*cache.Cache).Len

	_ func(int, int, api.Time) (*server.Server, api.Errno)     = server.Make
	_ func([]byte, int, api.Time) (*server.Server, api.Errno)  = server.Open
	_ func(*server.Server, uint64, []byte) ([]byte, api.Errno) = (*server.Server).Came
	_ func(*server.Server, uint64) api.Errno                   = (*server.Server).Ended
	_ func(*server.Server, uint64) api.Errno                   = (*server.Server).Tick
	_ func(*server.Server) api.Tree                            = (*server.Server).Tree
	_ func(*server.Server) api.Time                            = (*server.Server).Now
	_ func(*server.Server) [8]byte                             = (*server.Server).Boot
	_ func(*server.Server) []byte                              = (*server.Server).Disk
	_ func(*server.Server, int, int) ([]byte, api.Errno)       = (*server.Server).Crash

	_ func(string) (string, int, bool) = script.Run
)

// The kinds of a message have the numbers of their order in the chapter.
func TestKinds(t *testing.T) {
	kinds := []classify.Kind{classify.Drop, classify.Answer, classify.Null, classify.Nfs, classify.Mount}
	for i, k := range kinds {
		if int(k) != i {
			t.Errorf("kind %d has the number %d", i, k)
		}
	}
}
