// Package calls holds each layer's calls against the signatures that the chapters list: there is no test to run, but with a call missing or another signature it does not build.
package calls

import (
	"freeboard/acts"
	"freeboard/api"
	"freeboard/deal"
	"freeboard/dial"
	"freeboard/disk"
	"freeboard/even"
	"freeboard/eye"
	"freeboard/fetch"
	"freeboard/flight"
	"freeboard/fold"
	"freeboard/head"
	"freeboard/home"
	"freeboard/label"
	"freeboard/log"
	"freeboard/loss"
	"freeboard/mend"
	"freeboard/model"
	"freeboard/move"
	"freeboard/note"
	"freeboard/pace"
	"freeboard/pack"
	"freeboard/plan"
	"freeboard/play"
	"freeboard/poly"
	"freeboard/redo"
	"freeboard/scan"
	"freeboard/shape"
	"freeboard/shelf"
	"freeboard/split"
	"freeboard/super"
	"freeboard/tale"
	"freeboard/turn"
	"freeboard/wake"
)

// poly
var (
	_ func([]byte) uint32         = poly.Sum
	_ func(uint32, []byte) uint32 = poly.Over
)

// pack
var (
	_ func([]byte, int, int, int) ([]byte, api.Errno) = pack.Put
	_ func([]byte, int, int) (int, api.Errno)         = pack.Take
)

// fold
var (
	_ func([][]byte) ([]byte, api.Errno) = fold.Fold
)

// disk
var (
	_ func(int) (api.Disk, api.Errno)                   = disk.New
	_ func(api.Disk) api.Errno                          = disk.Check
	_ func(api.Disk, int) ([]byte, api.Errno)           = disk.Read
	_ func(api.Disk, int) ([]byte, api.Errno)           = disk.Lasting
	_ func(api.Disk, int, []byte) (api.Disk, api.Errno) = disk.Write
	_ func(api.Disk, int, []byte) (api.Disk, api.Errno) = disk.Fua
	_ func(api.Disk) (api.Disk, api.Errno)              = disk.Flush
	_ func(api.Disk) (api.Disk, api.Errno)              = disk.Kill
	_ func(api.Disk, api.Disk) bool                     = disk.Same
	_ func(api.Disk) api.Disk                           = disk.Twin
)

// acts
var (
	_ func([]api.Act, []api.Disk) api.Errno                    = acts.Check
	_ func([]api.Disk, []api.Act, int) ([]api.Disk, api.Errno) = acts.Run
	_ func([]api.Disk, []bool) ([]api.Disk, api.Errno)         = acts.Crash
	_ func([]api.Disk) (int, api.Errno)                        = acts.Waits
	_ func([]api.Act, []api.Act) bool                          = acts.Same
)

// shape
var (
	_ func(api.Config) api.Errno        = shape.Check
	_ func(api.Config) (int, api.Errno) = shape.Stripes
	_ func(api.Config) (int, api.Errno) = shape.Blocks
	_ func(api.Config) (int, api.Errno) = shape.Need
	_ func(api.Config) (int, api.Errno) = shape.Member
	_ func(api.Config) (int, api.Errno) = shape.Journal
)

// turn
var (
	_ func(api.Config, int) (api.Spot, api.Errno) = turn.Spot
	_ func(api.Config, int, int) (int, api.Errno) = turn.Block
	_ func(api.Config, int) (int, api.Errno)      = turn.Parity
	_ func(api.Config, int, int) (int, api.Errno) = turn.Member
	_ func(api.Config, int, int) (int, api.Errno) = turn.Slot
)

// split
var (
	_ func(api.Config, api.Ask) api.Errno                  = split.Check
	_ func(api.Config, api.Ask) ([]int, api.Errno)         = split.Blocks
	_ func(api.Config, api.Ask, api.Ask) (bool, api.Errno) = split.Touch
)

// label
var (
	_ func(api.Label) api.Errno           = label.Check
	_ func(api.Label) ([]byte, api.Errno) = label.Write
	_ func([]byte) (api.Label, api.Errno) = label.Read
)

// super
var (
	_ func(api.Super) api.Errno           = super.Check
	_ func(api.Super) ([]byte, api.Errno) = super.Write
	_ func([]byte) (api.Super, api.Errno) = super.Read
)

// note
var (
	_ func(api.Note) api.Errno           = note.Check
	_ func(api.Note) ([]byte, api.Errno) = note.Write
	_ func([]byte) (api.Note, api.Errno) = note.Read
	_ func(api.Note, api.Note) bool      = note.Same
)

// dial
var (
	_ func(int, int, int) (int, api.Errno) = dial.On
	_ func(int, int, int) (int, api.Errno) = dial.Gap
)

// deal
var (
	_ func(api.Config, api.Deal) api.Errno                             = deal.Check
	_ func(api.Config, uint32, uint32, api.Deal) ([][]byte, api.Errno) = deal.Blocks
	_ func(api.Config, api.Disk, int) (api.Found, int, api.Errno)      = deal.Read
)

// log
var (
	_ func(uint32, uint32, int) (api.Log, api.Errno)                      = log.New
	_ func(api.Config, api.Log) api.Errno                                 = log.Check
	_ func(api.Config, api.Log) (int, api.Errno)                          = log.Free
	_ func(api.Config, api.Log, api.Deal) (api.Log, []api.Act, api.Errno) = log.Add
	_ func(api.Config, api.Log) (api.Log, api.Errno)                      = log.Flushed
	_ func(api.Config, api.Log, int) (api.Log, api.Errno)                 = log.Home
	_ func(api.Config, api.Log) (api.Log, []api.Act, api.Errno)           = log.Move
	_ func(api.Log, api.Log) bool                                         = log.Same
	_ func(api.Log) api.Log                                               = log.Twin
)

// scan
var (
	_ func(api.Config, api.Disk) (api.Super, []api.Found, api.Errno) = scan.All
)

// head
var (
	_ func(api.Config, int) (api.Head, api.Errno)                   = head.New
	_ func(api.Config, api.Head) api.Errno                          = head.Check
	_ func(api.Config, api.Head, int, []byte) (api.Head, api.Errno) = head.Take
	_ func(api.Config, api.Head, int, []byte) (api.Head, api.Errno) = head.Know
	_ func(api.Config, api.Head, int) ([]byte, bool, api.Errno)     = head.Tell
	_ func(api.Config, api.Head, []byte) (api.Head, api.Errno)      = head.Make
	_ func(api.Config, api.Head, uint32) (api.Head, api.Errno)      = head.Log
	_ func(api.Config, api.Head) (api.Head, api.Errno)              = head.Sure
	_ func(api.Config, api.Head) (api.Head, api.Errno)              = head.Lay
	_ func(api.Config, api.Head) (api.Head, api.Errno)              = head.Home
	_ func(api.Config, api.Head) (api.Deal, api.Errno)              = head.Deal
	_ func(api.Head, api.Head) bool                                 = head.Same
	_ func(api.Head) api.Head                                       = head.Twin
)

// plan
var (
	_ func(api.Config, api.Head, int) (api.Plan, api.Errno) = plan.Of
)

// even
var (
	_ func(api.Config, api.Head, api.Plan, [][]byte) ([]byte, api.Errno) = even.Parity
)

// shelf
var (
	_ func(api.Config, []api.Head) api.Errno                         = shelf.Check
	_ func(api.Config, []api.Head, int) (int, api.Errno)             = shelf.Find
	_ func(api.Config, []api.Head, int) ([]api.Head, api.Errno)      = shelf.Use
	_ func(api.Config, []api.Head, api.Head) ([]api.Head, api.Errno) = shelf.Put
	_ func(api.Config, []api.Head) (bool, api.Errno)                 = shelf.Room
	_ func([]api.Head, []api.Head) bool                              = shelf.Same
	_ func([]api.Head) []api.Head                                    = shelf.Twin
)

// fetch
var (
	_ func(api.Config, []api.Disk) api.Errno                          = fetch.Check
	_ func(api.Config, []api.Disk, int, int, int) ([]byte, api.Errno) = fetch.Block
)

// home
var (
	_ func(api.Config, int, api.Head) ([]api.Act, api.Errno) = home.Lay
	_ func(api.Config, int, api.Deal) ([]api.Act, api.Errno) = home.Again
	_ func(api.Config) ([]api.Act, api.Errno)                = home.Flush
)

// eye
var (
	_ func(api.Config, []api.Disk) api.Errno              = eye.Check
	_ func(api.Config, []api.Disk, int) (bool, api.Errno) = eye.Even
	_ func(api.Config, []api.Disk) ([]int, api.Errno)     = eye.Odd
)

// loss
var (
	_ func(api.Config, api.Loss) api.Errno                              = loss.Check
	_ func(api.Config, api.Loss, int) (int, api.Errno)                  = loss.Missing
	_ func(api.Config, api.Loss, int, bool) (api.Loss, api.Errno)       = loss.Die
	_ func(api.Config, api.Loss) (api.Loss, api.Errno)                  = loss.Spare
	_ func(api.Config, api.Loss) (api.Loss, api.Errno)                  = loss.Go
	_ func(api.Config, api.Loss) (api.Loss, api.Errno)                  = loss.Mark
	_ func(api.Config, api.Loss, bool) (api.Loss, []api.Act, api.Errno) = loss.Labels
)

// flight
var (
	_ func(api.Config, []api.Flight) api.Errno                                                   = flight.Check
	_ func(api.Config, []api.Flight, int, api.Ask, uint32) ([]api.Flight, api.Errno)             = flight.Add
	_ func(api.Config, []api.Flight, int, int) (bool, api.Errno)                                 = flight.May
	_ func(api.Config, []api.Flight, int, int, uint8, uint32, []byte) ([]api.Flight, api.Errno)  = flight.Go
	_ func(api.Config, []api.Flight, []int, uint32) ([]api.Flight, api.Errno)                    = flight.Deal
	_ func(api.Config, []api.Flight, api.Log, bool, bool) ([]api.Flight, []api.Reply, api.Errno) = flight.Done
	_ func([]api.Flight, []api.Flight) bool                                                      = flight.Same
	_ func([]api.Flight) []api.Flight                                                            = flight.Twin
)

// move
var (
	_ func(api.Device) api.Errno                                                = move.Check
	_ func(api.Device, []api.Disk, int, int) (api.Device, []api.Act, api.Errno) = move.Take
	_ func(api.Device, []api.Disk, int) (api.Device, api.Errno)                 = move.Ready
	_ func(api.Device, int) (api.Device, []api.Act, api.Errno)                  = move.Log
	_ func(api.Device) (api.Device, []api.Act, api.Errno)                       = move.Sure
	_ func(api.Device, int) (api.Device, []api.Act, api.Errno)                  = move.Lay
	_ func(api.Device) (api.Device, []api.Act, api.Errno)                       = move.Home
	_ func(api.Device) (api.Device, []api.Act, api.Errno)                       = move.Tail
	_ func(api.Device, api.Device) bool                                         = move.Same
	_ func(api.Device) api.Device                                               = move.Twin
)

// pace
var (
	_ func(api.Device) ([]api.Step, api.Errno)                                               = pace.Steps
	_ func(api.Device, []api.Disk, api.Step) (api.Device, []api.Act, []api.Reply, api.Errno) = pace.Do
	_ func(api.Device, api.Ask) (api.Device, int, []api.Reply, api.Errno)                    = pace.Ask
	_ func(api.Device) (api.Device, []api.Reply, api.Errno)                                  = pace.Answer
	_ func(api.Device) (int, api.Errno)                                                      = pace.Weight
)

// redo
var (
	_ func(api.Config, api.Loss, []api.Found) ([]api.Act, []api.Deal, api.Errno) = redo.Acts
)

// wake
var (
	_ func(api.Config) ([]api.Disk, api.Errno)                       = wake.Format
	_ func([]api.Disk, int) (api.Config, api.Loss, bool, api.Errno)  = wake.Who
	_ func([]api.Disk, int, bool) (api.Device, []api.Act, api.Errno) = wake.Open
)

// mend
var (
	_ func(api.Device) ([]api.Step, api.Errno)                                  = mend.Steps
	_ func(api.Device, []api.Disk, api.Step) (api.Device, []api.Act, api.Errno) = mend.Do
	_ func(api.Device, []api.Disk) (api.Device, []api.Disk, api.Errno)          = mend.Spare
	_ func(api.Device, []api.Disk, bool) ([]int, []api.Act, api.Errno)          = mend.Scrub
)

// model
var (
	_ func(api.Config) (api.Plain, api.Errno)                            = model.New
	_ func(api.Config, api.Plain) api.Errno                              = model.Check
	_ func(api.Config, api.Plain, int, api.Ask) (api.Plain, api.Errno)   = model.Begin
	_ func(api.Config, api.Plain, int) (api.Plain, api.Reply, api.Errno) = model.End
	_ func(api.Config, api.Plain, int, []byte) (bool, api.Errno)         = model.May
	_ func(api.Config, api.Plain, [][]byte) (api.Plain, api.Errno)       = model.Crash
	_ func(api.Plain, api.Plain) bool                                    = model.Same
	_ func(api.Plain) api.Plain                                          = model.Twin
)

// play
var (
	_ func(api.Config, bool) (api.World, api.Errno)                          = play.New
	_ func(api.World) api.Errno                                              = play.Check
	_ func(api.World) ([]api.Step, api.Errno)                                = play.Steps
	_ func(api.World, api.Deed) (api.World, []api.Reply, api.Errno)          = play.Do
	_ func(api.Config, bool, []api.Deed) (api.World, []api.Reply, api.Errno) = play.Run
	_ func(api.World, int) ([]byte, api.Errno)                               = play.Look
	_ func(api.World, api.World) bool                                        = play.Same
	_ func(api.World) api.World                                              = play.Twin
)

// tale
var (
	_ func(string) string = tale.Tell
	_ func() []string     = tale.Words
)
