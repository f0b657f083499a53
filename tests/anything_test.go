package tests

import (
	"math/rand/v2"
	"reflect"
	"slices"
	"strings"
	"testing"

	"loop.example/g03312/impl"
)

// example is a function with valid arguments.
type example struct {
	name string
	call any
	args []any
}

// examples are the functions whose arguments or results are not just numbers and strings.
func examples() []example {
	f, p := impl.FlowOf(udp("")), tcp("hello")
	table, _ := impl.PutFlow(impl.NewTable(), f, 2)
	rules := []impl.Rule{rule(), anything(4)}
	list, m := identity(1, 12), memory(12)
	pieces := []impl.Piece{{At: 130, Len: 20}, {At: 900, Len: 300}}
	sent, queue, _ := impl.SendPacket(list, m, 1, txQueue(), p, 3, 40)
	queue.Ring.Head = 3
	ring := impl.Ring{Base: 64, Size: 8, Head: 15, Tail: 2}
	done, completions, _ := impl.PutCompletion(list, m, 1, impl.CompletionQueue{Base: 64, Size: 4, Count: 7}, completion())
	completions.Count = 7
	template, _ := impl.Template(p)
	return []example{
		{"KeyWindow", impl.KeyWindow, []any{rssKey, 96}}, {"HashBytes", impl.HashBytes, []any{rssKey, text(12)}}, {"HashFlow", impl.HashFlow, []any{rssKey, f}},
		{"XorBytes", impl.XorBytes, []any{"ab", "cd"}}, {"RepeatedKey", impl.RepeatedKey, []any{1, 255}}, {"Reversed", impl.Reversed, []any{f}},
		{"EntryOf", impl.EntryOf, []any{spread(), f}}, {"SpreadQueue", impl.SpreadQueue, []any{spread(), 4, f}}, {"EvenTable", impl.EvenTable, []any{8, 3}},
		{"Retarget", impl.Retarget, []any{spread(), 3, 1}}, {"QueueLoads", impl.QueueLoads, []any{spread(), 4, manyFlows(5)}},
		{"FindFlow", impl.FindFlow, []any{table, f}}, {"PutFlow", impl.PutFlow, []any{table, f, 3}}, {"DropFlow", impl.DropFlow, []any{table, f}},
		{"TableFlows", impl.TableFlows, []any{table}}, {"Compacted", impl.Compacted, []any{table}},
		{"RuleMatches", impl.RuleMatches, []any{rule(), ruled()}}, {"RuleCovers", impl.RuleCovers, []any{rule(), rule()}},
		{"FindRule", impl.FindRule, []any{rules, ruled()}}, {"Effective", impl.Effective, []any{rules}},
		{"SteerPacket", impl.SteerPacket, []any{steering(), 3, p}}, {"PinFlows", impl.PinFlows, []any{steering(), 3, manyFlows(3), 1}},
		{"QueuePackets", impl.QueuePackets, []any{steering(), 3, []impl.Packet{p, udp("a")}, 1}},
		{"NewMemory", impl.NewMemory, []any{3}}, {"ReadMemory", impl.ReadMemory, []any{m, 120, 20}}, {"WriteMemory", impl.WriteMemory, []any{m, 120, text(20)}},
		{"ChangedPages", impl.ChangedPages, []any{m, sent}},
		{"MapPage", impl.MapPage, []any{list, impl.Mapping{Virtual: 9}}}, {"UnmapPage", impl.UnmapPage, []any{list, 1, 3}}, {"Translate", impl.Translate, []any{list, 1, 300, true}},
		{"DmaRead", impl.DmaRead, []any{list, m, 1, 120, 200}}, {"DmaWrite", impl.DmaWrite, []any{list, m, 1, 120, text(200)}},
		{"HostWrite", impl.HostWrite, []any{list, m, 1, 120, text(200)}}, {"WritablePages", impl.WritablePages, []any{list, 1}},
		{"PiecesLength", impl.PiecesLength, []any{pieces}}, {"CutPieces", impl.CutPieces, []any{100, 50, 7}},
		{"GatherPieces", impl.GatherPieces, []any{list, m, 1, pieces}}, {"ScatterPieces", impl.ScatterPieces, []any{list, m, 1, pieces, text(310)}},
		{"PiecesApart", impl.PiecesApart, []any{list, 1, pieces}},
		{"EncodeDesc", impl.EncodeDesc, []any{desc()}}, {"DecodeDesc", impl.DecodeDesc, []any{impl.EncodeDesc(desc())}},
		{"DescribePacket", impl.DescribePacket, []any{pieces, 100, 7}}, {"PiecesOfDescs", impl.PiecesOfDescs, []any{impl.DescribePacket(pieces, 100, 7)}},
		{"RingUsed", impl.RingUsed, []any{ring}}, {"RingFree", impl.RingFree, []any{ring}}, {"SlotAddress", impl.SlotAddress, []any{ring, 5}},
		{"RingPut", impl.RingPut, []any{list, m, 1, ring, entry(1)}}, {"RingTake", impl.RingTake, []any{list, m, 1, ring}},
		{"RingPutAll", impl.RingPutAll, []any{list, m, 1, ring, entries(3)}},
		{"NewPool", impl.NewPool, []any{5, 6, 7}}, {"BufferAddress", impl.BufferAddress, []any{pool(), 2}}, {"TakeBuffers", impl.TakeBuffers, []any{pool(), 2}},
		{"GiveBuffers", impl.GiveBuffers, []any{pool(), []int{1}}},
		{"Template", impl.Template, []any{p}}, {"FillSums", impl.FillSums, []any{template}}, {"TxOk", impl.TxOk, []any{txQueue()}},
		{"SendPacket", impl.SendPacket, []any{list, m, 1, txQueue(), p, 100, 40}}, {"CompletePackets", impl.CompletePackets, []any{txQueue(), 2}},
		{"TakeChain", impl.TakeChain, []any{list, sent, 1, queue.Ring}}, {"TransmitNext", impl.TransmitNext, []any{list, sent, 1, queue.Ring}},
		{"TransmitAll", impl.TransmitAll, []any{list, sent, 1, queue.Ring}},
		{"Accepts", impl.Accepts, []any{filter(), p}}, {"AddVlan", impl.AddVlan, []any{filter(), 7}}, {"DropVlan", impl.DropVlan, []any{filter(), 5}},
		{"AcceptedPackets", impl.AcceptedPackets, []any{filter(), []impl.Packet{p, udp("a")}}},
		{"EncodeCompletion", impl.EncodeCompletion, []any{completion(), 1}}, {"DecodeCompletion", impl.DecodeCompletion, []any{impl.EncodeCompletion(completion(), 1)}},
		{"PutCompletion", impl.PutCompletion, []any{list, m, 1, completions, completion()}}, {"NextCompletion", impl.NextCompletion, []any{list, done, 1, completions}},
	}
}

// shaken returns a copy of a value in which some parts are changed to anything.
func shaken(r *rand.Rand, v reflect.Value) reflect.Value {
	copied := reflect.New(v.Type()).Elem()
	copied.Set(v)
	often := r.UintN(12) == 0
	switch v.Kind() {
	case reflect.Int:
		if often {
			near := []int64{0, 1, -1, 2, v.Int() + 1, v.Int() - 1, -v.Int(), 2 * v.Int(), int64(far[r.IntN(len(far))])}
			copied.SetInt(near[r.IntN(len(near))])
		}
	case reflect.Bool:
		copied.SetBool(v.Bool() != often)
	case reflect.String:
		if often {
			s := v.String()
			near := []string{"", "x", s + "x", s[:len(s)/2], strings.Repeat("\xff", len(s)), randomText(r, len(s)), text(5000)}
			copied.SetString(near[r.IntN(len(near))])
		}
	case reflect.Struct:
		for i := range v.NumField() {
			copied.Field(i).Set(shaken(r, v.Field(i)))
		}
	case reflect.Slice:
		copied.Set(reflect.MakeSlice(v.Type(), 0, 0))
		for i := range v.Len() {
			if r.UintN(30) == 0 {
				continue
			}
			copied.Set(reflect.Append(copied, shaken(r, v.Index(i))))
		}
		if often && v.Len() > 0 {
			for range []int{1, 2, 20, 100}[r.IntN(4)] {
				copied.Set(reflect.Append(copied, shaken(r, v.Index(r.IntN(v.Len())))))
			}
		}
	}
	return copied
}

// TestAnyArguments checks that a function neither panics nor changes or shares memory, whatever its arguments are.
func TestAnyArguments(t *testing.T) {
	for _, x := range slices.Concat(examples(), deviceExamples(t), hostExamples(t)) {
		t.Run(x.name, func(t *testing.T) {
			checkPure(t, x.call, x.args...)
			r := newRandom(99)
			for range 60 {
				var args []any
				for _, arg := range x.args {
					v := reflect.ValueOf(arg)
					if r.UintN(2) == 0 {
						v = shaken(r, v)
					}
					args = append(args, v.Interface())
				}
				checkPure(t, x.call, args...)
			}
		})
	}
}
