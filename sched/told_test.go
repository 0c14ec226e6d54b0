package sched

import (
	"fmt"
	"slices"
	"strings"
	"testing"

	"quern/api"
)

// toldRun is a system and picks by chance with the run that another program made of them.
type toldRun struct {
	progs                string
	rooms                []int
	groups, locks, cells int
	picks                []int
	end, fault           int
	events               string
	runners              int
	held                 []int // by the cells, at the end
}

func toldRuns() []toldRun {
	return []toldRun{
		{"Set 0 -9223372036854775808; Set 1 9223372036854775807; Set 2 9223372036854775807; Start 1; Set 1 2; Write 2 1; Wait | Wait; Wait; Write 2; Send; Take 0 1 2; Write 2 1", []int{2}, 1, 2, 2, []int{9223372036854775807, 5, -9223372036854775808, 4, -9223372036854775808, 1, 4},
			1, 0, "0 Set 0 0; 0 Set 0 0; 0 Set 0 0; 0 Start 1 1; 0 Set 0 0; 1 Wait 0 0; 0 Write 1 2; 0 Wait 0 0; 1 Wait 0 0; 1 Write 1 -9223372036854775808; 1 Send 0 -9223372036854775808; 1 Take 0 -9223372036854775808; 1 Write 1 -9223372036854775808", 2, []int{0, -9223372036854775808}},
		{"Set 0 11; Set 1 9223372036854775807; Set 2 40; Write 2 1; Start 1; Less 1 2 8; Take 0 2 9; Start 1; Wait | Send 0 1; Write 2; Send 0 2; Lock 1; Read; Wait; Close; Less 0 0 8 | Send; Start 1; Lock 1; Start 1; Jump 0 0 9; Close; Start 2; Lock 1; Wait", []int{3}, 1, 2, 4, []int{2},
			3, 131, "0 Set 0 0; 0 Set 0 0; 0 Set 0 0; 0 Write 0 9223372036854775807; 0 Start 1 1; 0 Less 0 0; 1 Send 0 9223372036854775807; 0 Take 0 9223372036854775807; 0 Start 1 2; 0 Wait 0 0; 1 Write 0 11; 1 Send 0 40; 1 Lock 1 0; 1 Read 3 0; 1 Wait 0 0; 1 Close 0 0; 1 Less 0 0; 2 Send 0 9223372036854775807", 3, []int{11, 0, 0, 0}},
		{"Set 0 40; Set 1 3; Set 2 -7; Work 9223372036854775807; Write 2 1; Read 2 1; Read 2 1; Read 1; Close; Write 2 2; Set 1 -1; Start 1 | Send 0 1; Lock; Less 2 2 5; Write 0 2; Wait | Send 0 2; Wait; Read 1; Wait; Set 2 2; Sum 0 1; Write 2; Take 0 0 8; Start 1", []int{2}, 1, 1, 3, []int{3, 9223372036854775807},
			3, 131, "0 Set 0 0; 0 Set 0 0; 0 Set 0 0; 0 Work 9223372036854775807 40; 0 Write 2 3; 0 Read 2 3; 0 Read 2 3; 0 Read 0 0; 0 Close 0 0; 0 Write 2 -7; 0 Set 0 0; 0 Start 1 1; 1 Send 0 -1", 2, []int{0, 0, -7}},
		{"Set 0 3; Set 1 -1; Set 2 -1; Jump 0 0 6; Send; Take 0 0 9; Write 0 2; Start 2; Read 0 1; Work -88 2 | Write 0 2; Read 1 2; Take 0 0 4; Read; Take 0 1 8; Sum 2; Read 1 2; Start 1; Close | Set 2 -1; Lock 1; Send; Work -9223372036854775808 2; Work 66 2; Write 2 1; Work -21 1; Start 1", []int{1}, 1, 2, 3, []int{5, 3, -2, -9223372036854775808, -3, -8, 5, -9223372036854775808},
			2, 0, "0 Set 0 0; 0 Set 0 0; 0 Set 0 0; 0 Jump 0 0; 0 Write 0 -1; 0 Start 2 1; 1 Set 0 0; 0 Read 0 -1; 0 Work -88 -1; 1 Lock 1 0; 1 Send 0 3; 1 Work -9223372036854775808 -1; 1 Work 66 -1; 1 Write 2 -1; 1 Work -21 -1; 1 Start 1 2; 2 Write 0 -1; 2 Read 2 -1; 2 Take 0 3; 2 Read 0 -1", 3, []int{-1, 0, -1}},
		{"Set 0 -7; Set 1 -9223372036854775808; Set 2 -7; Send 1 1; Jump 0 0 7; Set 1 5; Add 0 9223372036854775807; Read 2 1; Work -1; Send 0 2; Write 2; Start 1 | Work 2 2; Lock 1; Take 0 2 3; Read; Less 0 2 6; Jump 0 0 6", []int{2, 1}, 2, 2, 3, []int{9223372036854775807},
			1, 0, "0 Set 0 0; 0 Set 0 0; 0 Set 0 0; 0 Send 1 -9223372036854775808; 0 Jump 0 0; 0 Read 2 0; 0 Work -1 -7; 0 Send 0 -7; 0 Write 2 -7; 0 Start 1 1; 1 Work 2 -7; 1 Lock 1 0; 1 Take 0 -7; 1 Read 2 -7; 1 Less 0 0; 1 Jump 0 0", 2, []int{0, 0, -7}},
		{"Set 0 -1; Set 1 11; Set 2 11; Write 0 1; Less 0 2 5; Start 1; Lock; Send 0 1 | Read 2 2; Lock; Add 1 5; Set 0 -1; Less 2 1 5", []int{2}, 2, 1, 3, []int{-5, -6, -8, 2, 4, -9223372036854775808},
			2, 0, "0 Set 0 0; 0 Set 0 0; 0 Set 0 0; 0 Write 2 11; 0 Less 0 0; 0 Start 1 1; 0 Lock 0 0; 0 Send 0 11; 1 Read 2 11", 2, []int{0, 0, 11}},
		{"Set 0 40; Set 1 -7; Set 2 -1; Start 1; Send 0 2; Sum 2 2; Take 0 2 9; Set 2 -1; Read 1 1; Work 9223372036854775807 2 | Set 1 -9223372036854775808; Send 1; Read 1 2; Read 2 1; Take 1 0 3; Send", []int{3, 3}, 2, 1, 4, []int{9223372036854775807, 6, 5},
			1, 0, "0 Set 0 0; 0 Set 0 0; 0 Set 0 0; 0 Start 1 1; 0 Send 0 -1; 0 Sum 0 0; 0 Take 0 -1; 0 Set 0 0; 0 Read 1 0; 0 Work 9223372036854775807 -1; 1 Set 0 0; 1 Send 1 40; 1 Read 0 0; 1 Read 0 0; 1 Take 1 40; 1 Send 0 40", 2, []int{0, 0, 0, 0}},
		{"Set 0 -9223372036854775808; Set 1 40; Set 2 40; Work 9223372036854775807; Close; Read 2 1; Start 1; Take 0 0 10; Send 0 2; Read 0 1 | Sum 2 2; Set 1 -34; Lock; Lock 1; Sum 2 2; End; Send 0 2; Read 2 1", []int{3}, 1, 2, 4, []int{3, 5, -9223372036854775808, -9223372036854775808, 5, 0, 0, 0, -1},
			1, 0, "0 Set 0 0; 0 Set 0 0; 0 Set 0 0; 0 Work 9223372036854775807 -9223372036854775808; 0 Close 0 0; 0 Read 0 0; 0 Start 1 1; 0 Take 0 -9223372036854775808 shut; 1 Sum 0 0; 1 Set 0 0; 1 Lock 0 0; 1 Lock 1 0; 1 Sum 0 0; 1 End 0 0", 2, []int{0, 0, 0, 0}},
		{"Set 0 -1; Set 1 -9223372036854775808; Set 2 3; Start 1; Jump 0 0 5; Start 2; Less 0 2 7 | Start 2; Send; End; Read; End | Write; Read; Set 2 7; Wait; Set 2 7", []int{2}, 2, 1, 2, []int{-9223372036854775808, -9223372036854775808, 9223372036854775807, -5, -9223372036854775808, 8, 4},
			1, 0, "0 Set 0 0; 0 Set 0 0; 0 Set 0 0; 0 Start 1 1; 0 Jump 0 0; 0 Start 2 2; 1 Start 2 3; 0 Less 0 0; 1 Send 0 -1; 1 End 0 0; 2 Write 1 -1; 2 Read 1 -1; 2 Set 0 0; 2 Wait 0 0; 2 Set 0 0; 3 Write 1 -1; 3 Read 1 -1; 3 Set 0 0; 3 Wait 0 0; 3 Set 0 0", 4, []int{0, -1}},
		{"Set 0 9223372036854775807; Set 1 40; Set 2 -1; Write 2 2; Set 1 1; Start 1; Start 2; Start 1; Start 1 | Take 0 0 2; Free 1; Add 0 5; Free 1; Start 1; Read; Lock; Start 2; Jump 0 0 9 | Lock; Set 0 -1; Lock 1; Send 0 2; End; Jump 0 0 8; Send 0 2; Start", []int{1}, 1, 2, 2, []int{4, -2},
			3, 133, "0 Set 0 0; 0 Set 0 0; 0 Set 0 0; 0 Write 1 -1; 0 Set 0 0; 0 Start 1 1; 0 Start 2 2; 0 Start 1 3; 0 Start 1 4; 2 Lock 0 0; 2 Set 0 0; 2 Lock 1 0; 2 Send 0 -1; 1 Take 0 -1; 1 Free 1 0; 1 Add 0 5; 1 Free 1 0", 5, []int{0, -1}},
		{"Set 0 -7; Set 1 -1; Set 2 -7; Wait 1; Write 2; Start 1; Read 2 2 | Write; Free 1; Less 2 0 4; Send 1 2; Read 0 2; Send 1 2; Start 1; Write 0 1; Read 0 1 | Send 1 1; Take 0 2 4; Jump 0 0 3; Write 1 2; Set 0 5; End; Write 2 1; Jump 0 0 9; Set 0 -9223372036854775808", []int{3, 3}, 2, 2, 1, []int{9223372036854775807, 1},
			3, 133, "0 Set 0 0; 0 Set 0 0; 0 Set 0 0; 0 Wait 1 0; 0 Write 0 -7; 0 Start 1 1; 0 Read 0 -7; 1 Write 0 -7; 1 Free 1 0", 2, []int{-7}},
		{"Set 0 -1; Set 1 -1; Set 2 -1; Send 0 2; Lock; Less 0 1 10; Take 0 2 11; Work -38 1; Sum; Free; Start 1 | Send 0 1; Take 0 1 3; Work 5 2; Send", []int{3}, 2, 1, 2, []int{5, 2, 5, 1, -9223372036854775808, 6, 1},
			1, 0, "0 Set 0 0; 0 Set 0 0; 0 Set 0 0; 0 Send 0 -1; 0 Lock 0 0; 0 Less 0 0; 0 Take 0 -1; 0 Work -38 -1; 0 Sum 0 0; 0 Free 0 0; 0 Start 1 1; 1 Send 0 -1; 1 Take 0 -1; 1 Work 5 -1; 1 Send 0 -2", 2, []int{0, 0}},
		{"Set 0 11; Set 1 -1; Set 2 9223372036854775807; Start 1; Take 0 2 9; Jump 0 0 9; Work -1 2; Add 0 2; Read; Jump 0 0 11; Lock | Send 0 1; Write 1 1; Start 2; Close | Start 1; Sum 2 2; End; Close", []int{2}, 1, 1, 4, []int{-9223372036854775808, 2, 3, 1},
			3, 131, "0 Set 0 0; 0 Set 0 0; 0 Set 0 0; 0 Start 1 1; 1 Send 0 -1; 0 Take 0 -1; 0 Jump 0 0; 0 Jump 0 0; 1 Write 3 -1; 1 Start 2 2; 1 Close 0 0; 2 Start 1 3; 2 Sum 0 0; 2 End 0 0; 3 Send 0 -1", 4, []int{0, 0, 0, -1}},
		{"Set 0 -7; Set 1 3; Set 2 9223372036854775807; Start 1; Start 1; Less 2 0 8; Close 1; Lock 1; Wait; Read | Read 2; Take 1 2 7; Read; Sum 2; Sum 0 2; Take 1 0 6; Start 1", []int{2, 2}, 2, 2, 4, []int{-8, -5, -9223372036854775808, -9223372036854775808, -1, 2, -9223372036854775808, 9223372036854775807, 2},
			1, 0, "0 Set 0 0; 0 Set 0 0; 0 Set 0 0; 0 Start 1 1; 1 Read 3 0; 0 Start 1 2; 0 Less 0 0; 2 Read 3 0; 0 Close 1 0; 0 Lock 1 0; 0 Wait 0 0; 0 Read 1 0; 1 Take 1 9223372036854775807 shut; 2 Take 1 9223372036854775807 shut", 3, []int{0, 0, 0, 0}},
		{"Set 0 3; Set 1 11; Set 2 -9223372036854775808; Start 2; Start 2; Work 2; Set 0 49; Write 2 1; Write 2 1; Take 0 2 10 | Take 1 2 4; Less 0 1 3; End; Less 0 0 4 | Write 1 1; Write 2; Add; Send 0 2; Jump 0 0 5", []int{2, 2}, 1, 1, 4, []int{-3, -9223372036854775808, -4, 4, 5},
			1, 0, "0 Set 0 0; 0 Set 0 0; 0 Set 0 0; 0 Start 2 1; 1 Write 3 11; 0 Start 2 2; 0 Work 2 3; 0 Set 0 0; 0 Write 0 11; 0 Write 0 11; 1 Write 0 3; 1 Add 0 0; 1 Send 0 -9223372036854775808; 0 Take 0 -9223372036854775808; 1 Jump 0 0; 2 Write 3 11; 2 Write 0 3; 2 Add 0 0; 2 Send 0 -9223372036854775808; 2 Jump 0 0", 3, []int{3, 0, 0, 11}},
		{"Set 0 11; Set 1 40; Set 2 9223372036854775807; Write 0 2; Start 1; Add 1 7; Send 0 2; End; Free | Read 1 1; Write 2 1; Send 0 2; Less 2 2 8; Work 2 1; Wait 1; Write 0 1; Send 0 1; Sum 2 | Write 2; Read 0 2; Set; Read; Lock; Write; Take 0 2 7; Sum 2 2; Write 1", []int{1}, 2, 1, 1, []int{0, 0, -9, -8, 9223372036854775807, 1, 9223372036854775807, 9, 4, 9223372036854775807},
			2, 0, "0 Set 0 0; 0 Set 0 0; 0 Set 0 0; 0 Write 0 9223372036854775807; 0 Start 1 1; 1 Read 0 9223372036854775807; 1 Write 0 9223372036854775807; 1 Send 0 9223372036854775807; 0 Add 1 7; 1 Less 0 0; 1 Work 2 9223372036854775807", 2, []int{9223372036854775807}},
		{"Set 0 3; Set 1 9223372036854775807; Set 2 11; Less 2 2 6; Send 0 2; Work -66 2; Close; Less 2 0 10; Start 1; Sum 2 | Take 0 2 6; Read 1 1; Start 2; Send; Take 0 2 6; Wait | Jump 0 0 5; Work -9223372036854775808; Jump 0 0 5; Lock; Start 2; Take 0 2 6; Take 0 0 6; Read 1 2", []int{2}, 1, 1, 1, []int{0, 9, 9223372036854775807, -9223372036854775808, 3, 4},
			3, 131, "0 Set 0 0; 0 Set 0 0; 0 Set 0 0; 0 Less 0 0; 0 Send 0 11; 0 Work -66 11; 0 Close 0 0; 0 Less 0 0; 0 Start 1 1; 0 Sum 0 0; 1 Take 0 11; 1 Read 0 0; 1 Start 2 2; 1 Send 0 3", 3, []int{0}},
		{"Set 0 -9223372036854775808; Set 1 -1; Set 2 -9223372036854775808; Start 1; Take 0 1 8; Take 0 1 6; Read 1 2; Write 2 1; Work -1 2; Set 0 1 | Read 2 2; Send 1 1; Take 1 2 6; Read 1 1; Lock; Read 2 1; Start; Send 1 | Write 2 1; Sum 2 1; Add 0 5; Start 2; Send 0 1; End; Lock; Start 2; Read", []int{1, 3}, 2, 1, 4, []int{-9223372036854775808, 5, 9223372036854775807},
			2, 0, "0 Set 0 0; 0 Set 0 0; 0 Set 0 0; 0 Start 1 1; 1 Read 0 0; 1 Send 1 -1; 1 Take 1 -1; 1 Read 3 0; 1 Lock 0 0; 1 Read 3 0; 1 Start 0 2; 1 Send 1 -9223372036854775808; 2 Set 0 0; 2 Set 0 0; 2 Set 0 0; 2 Start 1 3; 3 Read 0 0; 3 Send 1 -1; 3 Take 1 -9223372036854775808; 3 Read 3 0", 4, []int{0, 0, 0, 0}},
		{"Set 0 3; Set 1 -9223372036854775808; Set 2 -1; Send 1 1; Add 0 2; Send 1 2; Sum; Send 1 1; Take 1 1 10; Start 2 | Start 1; Read 2 2; Jump 0 0 4; Set 2 9223372036854775807; Add 0 2; Set 2 1 | Send 1; Set 1 5; Set 0 -3; Read 2 1; Start 2; Add 1 44", []int{2, 3}, 2, 2, 3, []int{2, -9223372036854775808, 3, 9223372036854775807, -9223372036854775808, 9223372036854775807, 8, -9, -3, 3, -9223372036854775808},
			2, 0, "0 Set 0 0; 0 Set 0 0; 0 Set 0 0; 0 Send 1 -9223372036854775808; 0 Add 0 2; 0 Send 1 -1; 0 Sum 0 0; 0 Send 1 -9223372036854775808; 0 Take 1 -9223372036854775808; 0 Start 2 1; 1 Send 1 6; 1 Set 0 0; 1 Set 0 0; 1 Read 2 0; 1 Start 2 2; 1 Add 1 44", 3, []int{0, 0, 0}},
		{"Set 0 9223372036854775807; Set 1 3; Set 2 -9223372036854775808; Write 0 2; Work 0 1; Set 1 -16; Read 2 1; Lock; Start 1; Set 2 1 | Close 1; Lock 1; Sum 1 2; Read 2 2; Add; Write; Close | Write 1 2; Read 0 1; Wait 1; Close; Write 2 1; Take 0 2 7; Send 1; Take 0 2 8", []int{2, 1}, 2, 2, 3, nil,
			1, 0, "0 Set 0 0; 0 Set 0 0; 0 Set 0 0; 0 Write 1 -9223372036854775808; 0 Work 0 3; 0 Set 0 0; 0 Read 1 -9223372036854775808; 0 Lock 0 0; 0 Start 1 1; 0 Set 0 0; 1 Close 1 0; 1 Lock 1 0; 1 Sum 0 0; 1 Read 1 -9223372036854775808; 1 Add 0 0; 1 Write 1 9223372036854775807; 1 Close 0 0", 2, []int{0, 9223372036854775807, 0}},
		{"Set 0 11; Set 1 3; Set 2 3; Set 1 2; Sum 2 1; Set 0 7; Set 2 5; Start 2; Take 0 1 11; Lock; Send 0 1; Write 0 1 | Set 0 -3; Send 0 1; Work 1 1; Read 1 1; Close; Write 0 1; Sum 1; Take 0 2 1 | Start 1; Write 1 1; Work 7 2; Start 2; Lock; Take 0 1 6; Less 0 2 7; Read 0 2", []int{1}, 2, 1, 3, []int{-2, 4, -9223372036854775808, 1},
			3, 131, "0 Set 0 0; 0 Set 0 0; 0 Set 0 0; 0 Set 0 0; 0 Sum 0 0; 0 Set 0 0; 0 Set 0 0; 0 Start 2 1; 1 Start 1 2; 1 Write 2 2; 1 Work 7 5; 1 Start 2 3; 1 Lock 0 0; 2 Set 0 0; 2 Send 0 2; 0 Take 0 2; 2 Work 1 2; 2 Read 2 2; 2 Close 0 0; 1 Take 0 2 shut; 1 Less 0 0; 1 Read 1 0; 2 Write 0 2; 2 Sum 0 0; 2 Take 0 5 shut; 2 Send 0 -1", 4, []int{2, 0, 2}},
		{"Set 0 40; Set 1 9223372036854775807; Set 2 9223372036854775807; Set 1 -1; Start 1; Write 2 2; Work 2 1; Start 1; Read 0 2; Read 1; Write 1 2 | Less 1 2 3; Take 0 0 6; Start 1; Write; Take 0 0 6; Start", []int{3, 3}, 1, 2, 4, []int{7, -5, 3},
			2, 0, "0 Set 0 0; 0 Set 0 0; 0 Set 0 0; 0 Set 0 0; 0 Start 1 1; 0 Write 3 9223372036854775807; 0 Work 2 -1; 0 Start 1 2; 0 Read 0 0; 0 Read 3 9223372036854775807; 0 Write 3 0; 1 Less 0 0; 1 Write 0 40; 2 Less 0 0; 2 Write 0 40", 3, []int{40, 0, 0, 0}},
		{"Set 0 -9223372036854775808; Set 1 -7; Set 2 -7; Send 0 2; Close 1; Work; Take 0 1 10; Send 0 1; Take 0 2 10; Work 5; Start 1; Read 2 2 | Start 1; Start 1; Set 0 -1; Close 1; Write 1 1; Less 2 1 9; Work -3 2; Send 1 2; Take 0 1 9", []int{3, 3}, 1, 1, 4, []int{-4, 9223372036854775807, -9223372036854775808, -7, 3, 0, 8, 9223372036854775807, 4, 2, -9223372036854775808, -9223372036854775808},
			3, 132, "0 Set 0 0; 0 Set 0 0; 0 Set 0 0; 0 Send 0 -7; 0 Close 1 0; 0 Work 0 -9223372036854775808; 0 Take 0 -7; 0 Send 0 -7; 0 Take 0 -7; 0 Work 5 -9223372036854775808; 0 Start 1 1; 0 Read 1 0; 1 Start 1 2; 1 Start 1 3; 1 Set 0 0; 1 Close 1 0", 4, []int{0, 0, 0, 0}},
		{"Set 0 -9223372036854775808; Set 1 11; Set 2 11; Sum 2 2; Start 1; Start 1; Start 1; Sum 2; Close 1; Start 1; Read 2 1 | Take 1 2 7; Add 1 9223372036854775807; Send 1; Start 1; Less 2 0 6; Work -9223372036854775808 2; Sum 1 2", []int{2, 3}, 2, 2, 1, nil,
			1, 0, "0 Set 0 0; 0 Set 0 0; 0 Set 0 0; 0 Sum 0 0; 0 Start 1 1; 0 Start 1 2; 0 Start 1 3; 0 Sum 0 0; 0 Close 1 0; 0 Start 1 4; 0 Read 0 0; 1 Take 1 22 shut; 2 Take 1 22 shut; 3 Take 1 22 shut; 4 Take 1 -9223372036854775786 shut", 5, []int{0}},
		{"Set 0 9223372036854775807; Set 1 11; Set 2 40; Write 2 2; Start 1; Add 0 9223372036854775807; Take 0 1 8; Start 1 | Read 2 2; Sum 1; Send 0 1; Take 0 0 4 | Sum 2 1; Send 0 2; Read 0 1; Lock; Send 0 1; Write 2; Close; Lock; Write 0 2", []int{3}, 2, 1, 1, []int{-4, -9223372036854775808, -9223372036854775808, 9223372036854775807, 6, -9223372036854775808},
			2, 0, "0 Set 0 0; 0 Set 0 0; 0 Set 0 0; 0 Write 0 40; 0 Start 1 1; 0 Add 0 9223372036854775807; 1 Read 0 40; 1 Sum 0 0; 1 Send 0 -9223372036854775798; 0 Take 0 -9223372036854775798; 0 Start 1 2; 2 Read 0 40; 2 Sum 0 0; 2 Send 0 9; 1 Take 0 9", 3, []int{40}},
		{"Set 0 9223372036854775807; Set 1 -7; Set 2 11; Write 0 1; Start 1; Read; Send 0 1; Send 1 | Read 0 1; Sum 0 2; Read 1 1; Lock 1", []int{3, 1}, 2, 2, 1, []int{9223372036854775807, 5, 6, 4, 5, 1},
			1, 0, "0 Set 0 0; 0 Set 0 0; 0 Set 0 0; 0 Write 0 -7; 0 Start 1 1; 1 Read 0 -7; 0 Read 0 -7; 0 Send 0 -7; 0 Send 1 -7; 1 Sum 0 0; 1 Read 0 -7; 1 Lock 1 0", 2, []int{-7}},
		{"Set 0 9223372036854775807; Set 1 -7; Set 2 9223372036854775807; Start; Start 1; Read 2 2; Take 1 2 9; Start 1; Write 2 1; Free; Send; Sum 1 2 | Send 1; Read 1 2; Read 2 1; Jump 0 0 4; Take 1 2 6; Less 1 0 8; Sum; Sum 2 1 | Less 2 2 1; Wait 1; Send 1 1; Send 1 1; Read 2 2; Sum 2 2; Wait", []int{3, 2}, 2, 2, 1, []int{-9223372036854775808, 2, 3, 0, 5, 6},
			3, 133, "0 Set 0 0; 0 Set 0 0; 0 Set 0 0; 0 Start 0 1; 1 Set 0 0; 0 Start 1 2; 0 Read 0 0; 1 Set 0 0; 1 Set 0 0; 1 Start 0 3; 1 Start 1 4; 1 Read 0 0; 2 Send 1 9223372036854775807; 0 Take 1 9223372036854775807; 0 Start 1 5; 0 Write 0 -7; 0 Free 0 0", 6, []int{-7}},
		{"Set 0 -7; Set 1 -9223372036854775808; Set 2 11; Wait; Set 1 5; Close 1; Send 0 1; Take 1 1 8; Start 1; Lock; Less 2 2 12; Start 1 | Wait; Take 1 1 6; Take 1 2 6; Start 1; Read 1 1; Work -1; Jump 0 0 8; Lock", []int{3, 1}, 1, 1, 1, []int{0, 5, 6, 9223372036854775807, -9223372036854775808, 7, -6, 1},
			1, 0, "0 Set 0 0; 0 Set 0 0; 0 Set 0 0; 0 Wait 0 0; 0 Set 0 0; 0 Close 1 0; 0 Send 0 5; 0 Take 1 5 shut; 0 Start 1 1; 0 Lock 0 0; 0 Less 0 0; 0 Start 1 2; 1 Wait 0 0; 1 Take 1 5 shut; 1 Jump 0 0; 2 Wait 0 0; 2 Take 1 5 shut; 2 Jump 0 0", 3, []int{0}},
		{"Set 0 9223372036854775807; Set 1 -7; Set 2 9223372036854775807; Write 2 1; Read 0 1; Work 36 2; Start 1 | Read; Work 1; Send; Write 1; Lock 1 | Send 1 2; Send 1; Work -33 2; Write 2 2", []int{3, 3}, 1, 2, 2, []int{-3, 3, 4, 8, -8, -9223372036854775808, -9223372036854775808},
			1, 0, "0 Set 0 0; 0 Set 0 0; 0 Set 0 0; 0 Write 1 -7; 0 Read 1 -7; 0 Work 36 9223372036854775807; 0 Start 1 1; 1 Read 1 -7; 1 Work 1 -7; 1 Send 0 -7; 1 Write 1 -7; 1 Lock 1 0", 2, []int{0, -7}},
		{"Set 0 3; Set 1 3; Set 2 3; Work -94; Set 0 2; Close; Take 0 0 8; Sum; Start 1; End | Jump 0 0 3; Read 1; Start 1; Set 2 -9223372036854775808; Jump 0 0 8; Send 0 2; Start 1; Jump 0 0 8", []int{3}, 1, 1, 4, []int{7, -9223372036854775808, 9223372036854775807, 9223372036854775807, -6, 4, 0, -9223372036854775808, 7, 5, -7, -9223372036854775808},
			1, 0, "0 Set 0 0; 0 Set 0 0; 0 Set 0 0; 0 Work -94 3; 0 Set 0 0; 0 Close 0 0; 0 Take 0 2 shut; 0 Start 1 1; 1 Jump 0 0; 1 Set 0 0; 1 Jump 0 0; 0 End 0 0", 2, []int{0, 0, 0, 0}},
		{"Set 0 40; Set 1 9223372036854775807; Set 2 11; Start 1; Write 0 1; Add 0 9223372036854775807; Lock 1; Send; Read 1; Set 0 32 | Take 0 1 6; Jump 0 0 7; Take 0 0 9; Work -9223372036854775808; Close; Free 1; Send 0 2; Less 0 2 9; Add | Send 0 2; Read 2 1; Sum 2; Less 1 2 7; Send 0 1; Close; Send 0 1", []int{2}, 1, 2, 2, []int{-5, 3, 2},
			1, 0, "0 Set 0 0; 0 Set 0 0; 0 Set 0 0; 0 Start 1 1; 0 Write 0 9223372036854775807; 0 Add 0 9223372036854775807; 0 Lock 1 0; 0 Send 0 40; 0 Read 1 0; 0 Set 0 0; 1 Take 0 40; 1 Jump 0 0; 1 Less 0 0; 1 Add 0 9223372036854775807", 2, []int{9223372036854775807, 0}},
		{"Set 0 11; Set 1 9223372036854775807; Set 2 3; Read 1; Start 1; Start 1; Write 2 2; Set 1 5; Start 1; Send 1 1; Write 1; Sum 1 2 | Work 10 2; Read 1; Take 0 1 6; Read 1 2; Sum 2 2; Write 1; Send 1 1 | Work 2 2; Set 1 1; Write 2 2; Write 1 1; Start 1; Set 1 -3; Write 2 1; Work -1", []int{2, 3}, 1, 1, 4, []int{-3},
			2, 0, "0 Set 0 0; 0 Set 0 0; 0 Set 0 0; 0 Read 3 0; 0 Start 1 1; 0 Start 1 2; 0 Write 3 3; 0 Set 0 0; 0 Start 1 3; 0 Send 1 5; 0 Write 1 0; 0 Sum 0 0; 1 Work 10 3; 1 Read 3 3; 2 Work 10 3; 2 Read 3 3; 3 Work 10 3; 3 Read 1 0", 4, []int{0, 0, 0, 3}},
		{"Set 0 9223372036854775807; Set 1 40; Set 2 -9223372036854775808; Start 1; Send; Wait; Add 0 69; Sum; Read 2 1; Write 1 1; Add 0 5 | Jump 0 0 2; Add 0 7; Take 0 1 3; Lock; Write 1", []int{3}, 1, 1, 1, []int{1, 4, 4, 9223372036854775807, -6, 9223372036854775807, -9223372036854775808, 0, 9, 0, 1},
			1, 0, "0 Set 0 0; 0 Set 0 0; 0 Set 0 0; 0 Start 1 1; 0 Send 0 9223372036854775807; 1 Jump 0 0; 0 Wait 0 0; 0 Add 0 69; 1 Take 0 9223372036854775807; 0 Sum 0 0; 1 Lock 0 0; 0 Read 0 0; 0 Write 0 0; 0 Add 0 74; 1 Write 0 9223372036854775807", 2, []int{9223372036854775807}},
		{"Set 0 -1; Set 1 -1; Set 2 40; Start 1; Jump 0 0 6; Sum 2; Read 2; Take 0 1 8 | Add 1 91; Read 2 2; Read 0 2; Less 1 0 6; Jump 0 0 5; Wait; Set 2 9223372036854775807; Close; Read 2", []int{2}, 2, 2, 2, []int{9223372036854775807, 9223372036854775807, -9223372036854775808, 5, 4, 0, 1, -9223372036854775808, 0, 9223372036854775807},
			1, 0, "0 Set 0 0; 0 Set 0 0; 0 Set 0 0; 0 Start 1 1; 0 Jump 0 0; 0 Read 0 0; 1 Add 1 91; 1 Read 0 0; 1 Read 1 0; 1 Less 0 0; 1 Jump 0 0; 1 Wait 0 0; 1 Set 0 0; 1 Close 0 0; 0 Take 0 -1 shut; 1 Read 1 0", 2, []int{0, 0}},
		{"Set 0 -9223372036854775808; Set 1 40; Set 2 3; Start 1; Start 2; Read 1; Jump 0 0 7 | Jump 0 0 3; Take 0 1 2; Send 0 2; Send 0 1 | Read 0 2; Read 2 2; Take 0 1 6; Start 1; Take 0 0 6; Set 0 -3; Write 1 1", []int{2}, 1, 1, 3, []int{9223372036854775807},
			1, 0, "0 Set 0 0; 0 Set 0 0; 0 Set 0 0; 0 Start 1 1; 0 Start 2 2; 0 Read 1 0; 0 Jump 0 0; 1 Jump 0 0; 1 Send 0 40; 2 Read 1 0; 2 Read 0 0; 2 Take 0 40; 2 Start 1 3; 3 Jump 0 0; 3 Send 0 40; 2 Take 0 40; 2 Set 0 0; 2 Write 1 40", 4, []int{0, 40, 0}},
		{"Set 0 -7; Set 1 -7; Set 2 3; Write 1; Set 2 7; Work 0 2; Read 2; Sum 0 1; Send 0 2; Write 1; Read 0 1; Start 1 | Close; Start 1; Start 1; Take 0 0 5; Free 1", []int{2}, 2, 2, 2, []int{5, 9223372036854775807, 2, -9223372036854775808, 5},
			3, 133, "0 Set 0 0; 0 Set 0 0; 0 Set 0 0; 0 Write 1 -7; 0 Set 0 0; 0 Work 0 7; 0 Read 1 -7; 0 Sum 0 0; 0 Send 0 7; 0 Write 1 -14; 0 Read 0 0; 0 Start 1 1; 1 Close 0 0; 1 Start 1 2; 1 Start 1 3; 1 Take 0 7; 1 Free 1 0", 4, []int{0, -14}},
		{"Set 0 40; Set 1 9223372036854775807; Set 2 40; Sum 0 1; Send 1; Start 1; Write 2 2; Jump 0 0 9; Read 1; Read 1; Send 1 2 | Start 2; Send 1 2; Less 1 1 9; Work -3 2; Lock; Start 2; Wait; Send 1 2; Start 2 | Sum; Less 2 1 4; End; Write 1 2; Take 1 1 5; Add 1 -9223372036854775808; Send 0 1; Work", []int{3, 2}, 2, 1, 4, []int{1, -4, -7, 0, 9},
			3, 134, "0 Set 0 0; 0 Set 0 0; 0 Set 0 0; 0 Sum 0 0; 0 Send 1 -9223372036854775769; 0 Start 1 1; 0 Write 0 40; 0 Jump 0 0; 0 Read 3 0; 0 Send 1 40; 1 Start 2 2; 2 Sum 0 0; 2 Less 0 0; 2 Take 1 -9223372036854775769; 1 Send 1 40; 1 Less 0 0; 1 Work -3 40; 1 Lock 0 0; 1 Start 2 3; 1 Wait 0 0; 2 Add 1 -9223372036854775808", 4, []int{40, 0, 0, 0}},
		{"Set 0 9223372036854775807; Set 1 11; Set 2 -7; Start 1; Take 1 0 9; Write 0 2; Read 1 2; Add 1 -3; Start 1 | Send 1 1; Wait 1; End; Take 1 2 9; Close; Write 2; Start 1; Send 0 1; Set 1 -9", []int{1, 2}, 2, 1, 4, []int{0, -9223372036854775808, 2},
			3, 134, "0 Set 0 0; 0 Set 0 0; 0 Set 0 0; 0 Start 1 1; 1 Send 1 11; 0 Take 1 11; 0 Write 3 -7; 0 Read 3 -7; 0 Add 1 -3", 2, []int{0, 0, 0, -7}},
		{"Set 0 40; Set 1 -1; Set 2 3; Close 1; Write 1 2; Start; Write 1; Read 2 1; Send 0 2 | Start; Read 2 2; Start 1; Read 0 1; Wait 1; Read 2 1", []int{3, 3}, 2, 2, 4, []int{4, 2, -9223372036854775808, 0, 9223372036854775807, -1, 2, 7, 6, 9223372036854775807, 2},
			3, 132, "0 Set 0 0; 0 Set 0 0; 0 Set 0 0; 0 Close 1 0; 0 Write 3 3; 0 Start 0 1; 0 Write 3 40; 1 Set 0 0; 0 Read 3 40; 1 Set 0 0; 0 Send 0 3; 1 Set 0 0; 1 Close 1 0", 2, []int{0, 0, 0, 40}},
		{"Set 0 40; Set 1 3; Set 2 -1; Send; Start 2; Jump 0 0 8; Wait 1; Send 0 1 | Write 2 1; Work -9223372036854775808; Jump 0 0 5; Wait 1; Work -3 1; Sum 1; Take 0 1 7; Jump 0 0 9; Read 1 | Close; Start 1; Send 1 1; Less 1 1 5; Start 1; Sum 1 2; Start 2", []int{1, 3}, 2, 1, 3, nil,
			3, 132, "0 Set 0 0; 0 Set 0 0; 0 Set 0 0; 0 Send 0 40; 0 Start 2 1; 0 Jump 0 0; 1 Close 0 0; 1 Start 1 2; 1 Send 1 3; 1 Less 0 0; 1 Start 1 3; 1 Sum 0 0; 1 Start 2 4; 2 Write 2 3; 2 Work -9223372036854775808 40; 2 Jump 0 0; 2 Sum 0 0; 2 Take 0 40; 2 Jump 0 0; 3 Write 2 3; 3 Work -9223372036854775808 40; 3 Jump 0 0; 3 Sum 0 0; 3 Take 0 43 shut; 3 Jump 0 0; 4 Close 0 0", 5, []int{0, 0, 3}},
		{"Set 0 -7; Set 1 40; Set 2 -1; Send; Less 1 1 9; Start 2; Write 1 1; Wait; Write 2 1; Take 0 0 10; Send; Jump 0 0 12 | Work -89 1; Sum 1 1; Work -3 1; Take 0 2 5; Read 2; Sum 2; Add 0 9223372036854775807; Start 2 | Lock; Free; Read 1; Write 1; Lock; Wait; Close; Close; Lock", []int{2}, 1, 1, 3, []int{9223372036854775807, -9223372036854775808, 0, 9223372036854775807, 6},
			3, 132, "0 Set 0 0; 0 Set 0 0; 0 Set 0 0; 0 Send 0 -7; 0 Less 0 0; 0 Start 2 1; 0 Write 1 40; 0 Wait 0 0; 0 Write 2 40; 0 Take 0 -7; 0 Send 0 -7; 0 Jump 0 0; 1 Lock 0 0; 1 Free 0 0; 1 Read 1 40; 1 Write 1 40; 1 Lock 0 0; 1 Wait 0 0; 1 Close 0 0; 1 Close 0 0", 2, []int{0, 40, 40}},
		{"Set 0 -1; Set 1 11; Set 2 40; Write 1; Read; Start 2; Close; Take 1 1 10; Take 1 1 9; Add 0 -9223372036854775808 | Start 1; Free; Less 1 0 6; Write 2; Send; Wait 1; Set 1 -3; Read 2 2; Set 0 46 | Close; Read 0 2; Work 1; Start 1; Set 2 -1", []int{3, 2}, 2, 1, 4, []int{-3, -9223372036854775808, 4, 3, 4, 9, 9223372036854775807, 9223372036854775807},
			3, 132, "0 Set 0 0; 0 Set 0 0; 0 Set 0 0; 0 Write 3 -1; 0 Read 3 -1; 0 Start 2 1; 1 Close 0 0; 1 Read 3 -1; 0 Close 0 0", 2, []int{0, 0, 0, -1}},
		{"Set 0 11; Set 1 -9223372036854775808; Set 2 40; Start 1; Take 0 2 7; Less 0 2 6; Free 1 | Wait; Send 0 2; Start 1; Start 1; Sum; Sum 2; Less 2 0 9; Write 2 1; Write 2 1", []int{3}, 2, 2, 2, []int{-6, -8, -9223372036854775808},
			3, 133, "0 Set 0 0; 0 Set 0 0; 0 Set 0 0; 0 Start 1 1; 1 Wait 0 0; 1 Send 0 40; 0 Take 0 40; 0 Less 0 0; 0 Free 1 0", 2, []int{0, 0}},
		{"Set 0 3; Set 1 40; Set 2 40; Start 1; Work 2 1; Lock; Send 0 2; Add 0 7; Add 0 9223372036854775807 | Take 0 2 2; Start 1; Send 0 2; Start 1", []int{2}, 1, 1, 1, []int{2, 9223372036854775807, -6, 4, 2, -4, -9223372036854775808, 1},
			3, 134, "0 Set 0 0; 0 Set 0 0; 0 Set 0 0; 0 Start 1 1; 0 Work 2 40; 0 Lock 0 0; 0 Send 0 40; 1 Take 0 40; 0 Add 0 7; 0 Add 0 -9223372036854775802", 2, []int{0}},
	}
}

func TestToldRuns(t *testing.T) { // SC2, SC3: runs that another program worked out
	ends, ops := map[[2]int]int{}, map[int]int{}
	for i, w := range toldRuns() {
		s := bare(strings.Split(w.progs, "|")...)
		s.Rooms, s.Groups, s.Locks, s.Cells = w.rooms, w.groups, w.locks, w.cells
		what := fmt.Sprint("told run ", i)
		told{what, s, w.picks, w.end, api.Errno(w.fault), w.events, w.runners, w.held}.want(t)
		r := played(t, what, s, w.picks...)
		wantSame(t, what+" by the model", modelPlay(s, w.picks), r)
		ends[[2]int{w.end, w.fault}]++
		for _, e := range r.Events {
			ops[e.Op]++
		}
		if at := min(3, len(w.picks)); !slices.Equal(modelReady(s, w.picks[:at]), mustReady(t, s, w.picks[:at])) {
			t.Errorf("%s: Ready behind %d picks", what, at)
		}
	}
	for _, end := range [][2]int{{1, 0}, {2, 0}, {3, 131}, {3, 132}, {3, 133}, {3, 134}} {
		if ends[end] == 0 {
			t.Errorf("no run ends with %v", end)
		}
	}
	if len(ops) != 16 {
		t.Errorf("%d operations", len(ops))
	}
}

func mustReady(t *testing.T, s api.System, picks []int) []int {
	t.Helper()
	list, e := Ready(s, picks)
	if e != api.OK {
		t.Fatalf("Ready: error %d", e)
	}
	return list
}
