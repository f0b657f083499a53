package tests

import (
	"testing"

	"loop.example/g03312/impl"
)

// deviceExamples are the functions of chapters 26 to 36.
func deviceExamples(t testing.TB) []example {
	list := identity(1, 20)
	m, q := rxQueue()
	full := holding(q, impl.Super{Packet: tcp("abcdef"), Size: 3, Count: 2})
	next := tcp("gh")
	next.Seg.Seq, next.Id = 1006, 502
	image, _ := impl.BuildImage(udp("abc"))
	read, reported := report(m, q, 400, image, impl.Completion{Cookie: 0, Len: len(image)})
	vector := impl.Vector{MaxCount: 2, MaxTime: 3, Count: 2, Time: 1, Raised: true}
	clock := impl.Clock{Time: 100, Fraction: 50, Rate: 3 * unit, Debt: 7}
	update, _ := impl.MakeImage(7, "new")
	steps := impl.UpdateSteps(bootable(), update)
	grant := []impl.Mapping{{Domain: 2, Virtual: 1, Physical: 3, Writable: true}}
	return []example{
		{"RxOk", impl.RxOk, []any{full}}, {"FlushHeld", impl.FlushHeld, []any{list, m, 1, full, rssKey}},
		{"ReceivePacket", impl.ReceivePacket, []any{list, m, 1, full, rssKey, next, true}}, {"ReceivePacket alone", impl.ReceivePacket, []any{list, m, 1, full, rssKey, next, false}},
		{"FillRing", impl.FillRing, []any{list, m, 1, impl.Ring{Base: 60, Size: 4}, pool()}}, {"HasCompletion", impl.HasCompletion, []any{list, read, 1, reported}},
		{"PollQueue", impl.PollQueue, []any{list, read, 1, reported, rxPool(), []impl.Stream{streamOf(tcp(""))}, 5}},
		{"VectorOk", impl.VectorOk, []any{vector}}, {"NewVector", impl.NewVector, []any{3, 4}}, {"AddEvent", impl.AddEvent, []any{vector}}, {"TickVector", impl.TickVector, []any{vector}},
		{"TakeInterrupt", impl.TakeInterrupt, []any{vector}}, {"Unmask", impl.Unmask, []any{vector}}, {"MaskVector", impl.MaskVector, []any{vector}}, {"TicksToInterrupt", impl.TicksToInterrupt, []any{vector}},
		{"BucketOk", impl.BucketOk, []any{bucket()}}, {"RefillBucket", impl.RefillBucket, []any{bucket(), 3}}, {"SpendTokens", impl.SpendTokens, []any{bucket(), 3}},
		{"WaitTicks", impl.WaitTicks, []any{bucket(), 45}}, {"PaceLengths", impl.PaceLengths, []any{bucket(), []int{15, 15, 15}, 5}},
		{"FairOk", impl.FairOk, []any{fair()}}, {"NewFair", impl.NewFair, []any{3, 50}}, {"PutFrame", impl.PutFrame, []any{fair(), 1, 50}}, {"ServeFrame", impl.ServeFrame, []any{fair()}},
		{"ServeAll", impl.ServeAll, []any{fair(), 5}}, {"ServedBytes", impl.ServedBytes, []any{[]int{1, 2, 1}, []int{5, 6, 7}, 1}},
		{"PauseOk", impl.PauseOk, []any{link()}}, {"NewPauseLink", impl.NewPauseLink, []any{100, 50, 20, 3}}, {"PauseTick", impl.PauseTick, []any{link(), 5, 6}},
		{"PauseRun", impl.PauseRun, []any{link(), []int{5, 6, 7}, []int{1, 2}}}, {"Headroom", impl.Headroom, []any{3, 100}},
		{"PortsOk", impl.PortsOk, []any{ports()}}, {"EntryVlan", impl.EntryVlan, []any{ports(), 2, between(22, 21, -1, udp("x"))}}, {"SwitchPacket", impl.SwitchPacket, []any{ports(), 2, between(22, most48, -1, udp("x"))}},
		{"LeavePacket", impl.LeavePacket, []any{ports(), 2, 1, udp("x")}}, {"DeliverPorts", impl.DeliverPorts, []any{ports(), 2, []impl.Packet{between(22, most48, -1, udp("x")), between(22, 21, 1, udp("y"))}}},
		{"FunctionsOk", impl.FunctionsOk, []any{functions(), ports()}}, {"SendFrom", impl.SendFrom, []any{functions(), ports(), 0, between(22, most48, 9, udp("x"))}},
		{"TickFunctions", impl.TickFunctions, []any{functions(), 3}}, {"FunctionsApart", impl.FunctionsApart, []any{functions(), grant}}, {"FunctionAt", impl.FunctionAt, []any{functions(), 4}},
		{"GrantPages", impl.GrantPages, []any{functions(), grant, 1, 8, []int{5, 6}}},
		{"ClockOk", impl.ClockOk, []any{clock}}, {"AdvanceClock", impl.AdvanceClock, []any{clock, 5}}, {"StepClock", impl.StepClock, []any{clock, -5}}, {"TrimClock", impl.TrimClock, []any{clock, 500}},
		{"OffsetOf", impl.OffsetOf, []any{100, 150, 160, 190}}, {"DelayOf", impl.DelayOf, []any{100, 150, 160, 190}},
		{"MailboxOk", impl.MailboxOk, []any{box()}}, {"HandleMessage", impl.HandleMessage, []any{box(), impl.Message{Seq: 42, Op: 2, Arg: 4}}},
		{"SendCommands", impl.SendCommands, []any{box(), []impl.Message{{Op: 1, Arg: 3}, {Op: 4}}, []bool{true, false, true}}},
		{"MakeImage", impl.MakeImage, []any{5, "body"}}, {"ImageVersion", impl.ImageVersion, []any{update}}, {"FlashOk", impl.FlashOk, []any{bootable()}}, {"BootBank", impl.BootBank, []any{bootable()}},
		{"BootVersion", impl.BootVersion, []any{bootable()}}, {"FlashStepOk", impl.FlashStepOk, []any{steps[1]}}, {"DoFlashStep", impl.DoFlashStep, []any{bootable(), steps[1], 5}},
		{"UpdateSteps", impl.UpdateSteps, []any{bootable(), update}}, {"RunUpdate", impl.RunUpdate, []any{bootable(), steps, 2, 5}},
	}
}

// hostExamples are the functions of chapters 37 to 43.
func hostExamples(t testing.TB) []example {
	h, c, s, i := busyHost(t), busyCard(t), soft(t), busyIdeal(t)
	dirty := impl.NoteChanges(impl.StartMove(h.Memory), h.Memory, impl.HostFlush(h).Memory)
	some := []impl.CardAct{cardActs()[0], cardActs()[3], cardActs()[9]}
	return []example{
		{"NewHost", impl.NewHost, []any{2, filter(), hostSteering(), true, 1, 2}}, {"HostOk", impl.HostOk, []any{h}}, {"HostSend", impl.HostSend, []any{h, tcp("x"), 50, 60}},
		{"HostTransmit", impl.HostTransmit, []any{h}}, {"HostReceive", impl.HostReceive, []any{h, frame(udp("x"))}}, {"HostFlush", impl.HostFlush, []any{h}}, {"HostTick", impl.HostTick, []any{h}},
		{"HostService", impl.HostService, []any{h, 3}}, {"HostDropped", impl.HostDropped, []any{h}}, {"HostReset", impl.HostReset, []any{h}}, {"HostAccount", impl.HostAccount, []any{h}},
		{"IsQuiet", impl.IsQuiet, []any{h}}, {"DrainHost", impl.DrainHost, []any{h, 4, 5}},
		{"StartMove", impl.StartMove, []any{h.Memory}}, {"NoteChanges", impl.NoteChanges, []any{dirty, h.Memory, memory(38)}}, {"CopyRound", impl.CopyRound, []any{dirty, h.Memory}},
		{"FinishMove", impl.FinishMove, []any{dirty, h}}, {"ShiftPages", impl.ShiftPages, []any{h, 5}}, {"SameView", impl.SameView, []any{h, h}},
		{"SoftOk", impl.SoftOk, []any{s}}, {"SoftOf", impl.SoftOf, []any{h}}, {"SoftSend", impl.SoftSend, []any{s, tcp(text(100)), 30}}, {"SoftReceive", impl.SoftReceive, []any{s, frame(udp("x"))}},
		{"SameData", impl.SameData, []any{h.Streams, h.Streams}},
		{"ActOk", impl.ActOk, []any{acts()[0]}}, {"DoAct", impl.DoAct, []any{h, acts()[2]}}, {"RunActs", impl.RunActs, []any{h, acts()}}, {"RunSoft", impl.RunSoft, []any{s, acts(), []int{1, 0, 0, 0, 0, 2, 0}}},
		{"HasReset", impl.HasReset, []any{acts()}}, {"AllDelivered", impl.AllDelivered, []any{h, acts()[:4]}},
		{"PortsOf", impl.PortsOf, []any{c.Boxes}}, {"NewCard", impl.NewCard, []any{cardBoxes(), oneQueue(), true, bucket(), bootable(), unit}}, {"CardOk", impl.CardOk, []any{c}},
		{"CardSwitch", impl.CardSwitch, []any{c, 1, between(2, most48, -1, udp("x"))}}, {"CardTransmit", impl.CardTransmit, []any{c, 1}}, {"CardReceive", impl.CardReceive, []any{c, frame(between(99, most48, -1, udp("x")))}},
		{"CardCommandTo", impl.CardCommandTo, []any{c, 0, impl.Message{Seq: 1, Op: 1, Arg: 77}}}, {"DoCard", impl.DoCard, []any{c, some[1]}}, {"RunCard", impl.RunCard, []any{c, some}}, {"CalmCard", impl.CalmCard, []any{c, 4, 3}},
		{"IdealOk", impl.IdealOk, []any{i}}, {"IdealOf", impl.IdealOf, []any{c}}, {"IdealSwitch", impl.IdealSwitch, []any{i, 1, between(2, most48, -1, udp("x"))}}, {"DoIdeal", impl.DoIdeal, []any{i, some[0], 1}},
		{"RunIdeal", impl.RunIdeal, []any{i, some, []int{1, 1, 1}}}, {"CardDropped", impl.CardDropped, []any{c}}, {"SameWorld", impl.SameWorld, []any{c, i}},
	}
}
