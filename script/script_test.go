package script_test

import (
	"slices"
	"strconv"
	"strings"
	"testing"

	"wharfinger/api"
	"wharfinger/script"
)

// run holds a script, given by its lines, to what each of them answers (behind a =, with a ; for each line feed).
func run(t *testing.T, lines ...string) {
	t.Helper()
	text, want := "", ""
	for _, l := range lines {
		line, answer, ok := strings.Cut(l, "=")
		if !ok {
			t.Fatalf("%q tells no answer", l)
		}
		text += line + "\n"
		if answer != "" {
			want += strings.ReplaceAll(answer, ";", "\n") + "\n"
		}
		if got := script.Run(text); got != want {
			t.Fatalf("behind %q:\n%s\nwant\n%s", line, tail(got), tail(want))
		}
	}
}

// tail is the end of a text that may be long.
func tail(s string) string {
	return s[max(0, len(s)-300):]
}

// P16.1: blanks are just the byte 32.
func TestWords(t *testing.T) {
	for _, x := range []struct {
		line string
		want []string
	}{
		{"", nil},
		{" ", nil},
		{"     ", nil},
		{"a", []string{"a"}},
		{"a b", []string{"a", "b"}},
		{"  a   bc d ", []string{"a", "bc", "d"}},
		{"a\tb c\rd\n e\u00a0f \u2003", []string{"a\tb", "c\rd\n", "e\u00a0f", "\u2003"}},
		{"\xff \xe4\xbd ä", []string{"\xff", "\xe4\xbd", "ä"}},
		{"\x00 \x00", []string{"\x00", "\x00"}},
	} {
		if got := script.Words(x.line); !slices.Equal(got, x.want) {
			t.Errorf("Words(%q) = %q; want %q", x.line, got, x.want)
		}
	}
}

// P16.1: one line more than line feeds; of the empty text none.
func TestCount(t *testing.T) {
	for text, want := range map[string]int{"": 0, " ": 1, "a": 1, "\n": 2, "a\n": 2, "a\nb": 2, "\n\n\n": 4, "a\r\nb\r": 2, "\xff\n\xff": 2, strings.Repeat("\n", 9999): 10000} {
		if got := script.Count(text); got != want {
			t.Errorf("Count(%.20q) = %d; want %d", text, got, want)
		}
	}
}

// P16.1: what has no words answers nothing; blanks are as many as one likes.
func TestNothing(t *testing.T) {
	for _, text := range []string{"", " ", "\n", "  \n \n\n"} {
		if got := script.Run(text); got != "" {
			t.Errorf("Run(%q) = %q", text, got)
		}
	}
	run(t, "=", "  node   n   a =ok", " =", "driver=none", "=", "show  node=n - 0 -")
}

// P16.1: a script may be so long, and no longer.
func TestLong(t *testing.T) {
	text := "driver\n" + strings.Repeat(" ", api.MaxScript-len("driver\n"))
	if got := script.Run(text); got != "none\n" {
		t.Errorf("%q", got)
	}
	for _, long := range []string{text + " ", strings.Repeat("driver\n", api.MaxScript), strings.Repeat("\xff", api.MaxScript+1)} {
		if got := script.Run(long); got != "long\n" {
			t.Errorf("%.40q", got)
		}
	}
}

// P16.1: what is no line.
func TestWord(t *testing.T) {
	for _, line := range []string{
		"foo", "Class f a -", "attach x", "CLAIM", "class\tf a -", "\xff", "-", "class", "ok",
		"class f", "class f a", "class f a - -", "class f a x", "class f a kw", "class f a wkw", "class f a W", "class f a ww", "class f a w k",
		"node n", "node", "node n a b",
		"claim c f 1", "claim c f 1 one", "claim c f 1 one - -", "claim c f x one -", "claim c f 01 one -", "claim c f -1 one -", "claim c f 1gi one -", "claim c f 1025Ti one -", "claim c f 12345678901234567 one -",
		"claim c f 1 none -", "claim c f 1 - -", "claim c f 1 One -", "claim c f one 1 -",
		"volume v g 1 one a", "volume v g 1 one a - -", "volume v g 1 one a w", "volume v g 1 one a wk", "volume v g 1 two a -", "volume v g 1K1 one a -",
		"pod p", "pod p c n", "snap s", "snap s c c",
		"del claim", "del attach x", "del foo x", "del claim c c", "del snapshot s", "del - x",
		"grow c", "grow c x", "grow c 1 1", "grow c 1.5Gi", "grow c 1025Ti",
		"place p", "place p n n",
		"put v n", "put v n x", "put v n -1", "put v n 01", "put v n 00", "put v n 1234567890", "put v n 1 1", "put v n +1", "put v n 1Ki", "put v n ١",
		"elect", "elect bind", "elect bind 2", "elect bind 00", "elect bind -", "elect binder 0", "elect 0 bind", "elect bind 0 0", "elect Bind 0",
		"step bind 0", "step bind 0 lost", "step bind 2 done", "step claim 0 done", "step bind 0 done done", "step bind done 0", "step bind 0 Done", "step bind 0 0",
		"crash bind", "crash bind 2", "crash plane 0", "crash bind 0 0", "resync data", "resync data x", "resync snap 0", "resync data 0 1",
		"again", "again x", "again -1", "again 00", "again 1 1", "again 0000000001", "again 1234567890",
		"tick", "tick x", "tick -1", "tick 01", "tick 1 1", "tick 1e3", "tick 1000000000",
		"run", "run 0", "run 201", "run -1", "run 01", "run x", "run 1 1", "run 1000000000",
		"show", "show claims", "show claim c", "show snapshot", "show -", "driver 1", "driver driver",
	} {
		if got := script.Run("node n a\n" + line + "\nshow node\ntick 1"); got != "ok\nword\nn - 0 -\nok\n" {
			t.Errorf("%q answers %q", line, got)
		}
	}
}

// P16.1: what the plane refuses is an error, be its words as they like.
func TestErrors(t *testing.T) {
	run(t,
		"claim C f 1 one -=error 2", "class "+strings.Repeat("x", 41)+" a -=error 2", "node n/m a=error 2", "claim c f 0 one -=error 2", "pod p !=error 2", "snap s Ä=error 2", "claim c f 1 one S=error 2",
		"node n -=error 2", "volume v g 1 one - -=error 2", "volume v g 0 one a -=error 2",
		"volume pvc/v g 1 one a -=error 3", "tick 0=error 3", "tick 1048577=error 3", "tick 999999999=error 3", "again 0=error 3", "put v n 0=error 3",
		"del node x=error 5", "grow c 1=error 5", "place p n=error 5", "put v n 1=error 5", "put v n 999999999=error 5", "volume v g 1 one c -=error 5", "del class ???=error 5",
		"class f a -=ok", "class f b wk=error 6", "claim c f 7 one -=ok", "claim c f 7 one -=error 6", "grow c 9=error 3",
		"elect data 1=ok", "elect data 0=error 8", "step bind 0 done=error 8", "step data 0 done=error 8", "step data 1 done=ok nothing",
		"node n a=ok", "pod p c=ok", "place p n=ok", "place p n=error 10", "again 0=error 5",
		"volume w g 100Gi one a -=ok", "volume x g 1 one a -=error 11", "volume x g 1 one b -=error 6", "put w n 1=error 10",
		"run 20=ok", "del volume w=ok", "run 20=ok", "volume w g 100Gi one a -=error 9", "again 1=error 9", "show volume=pvc/c#2 bound 7 -")
}

// P16.1: of what is full.
func TestFull(t *testing.T) {
	var lines []string
	for i := range api.MaxObjects {
		lines = append(lines, "class c"+strconv.Itoa(i)+" - -=ok")
	}
	run(t, append(lines, "class x - -=error 7", "del class c7=ok", "class x - -=ok")...)
	lines = nil
	for i := range api.MaxVolumes {
		lines = append(lines, "volume v"+strconv.Itoa(i)+" g 1 one a -=ok")
	}
	run(t, append(lines, "volume x g 1 one a -=error 7")...)
}

// P16.1: what is made is as its line says.
func TestMake(t *testing.T) {
	run(t,
		"class f a -=ok", "class g - w=ok", "class h b k=ok", "class i - wk=ok", "node n b=ok", "node m a=ok",
		"claim c f 1536Mi one -=ok", "claim d f 2K many -=ok", "claim e h 3Mi one -=ok", "claim g g 4 one -=ok", "claim i i 5 one -=ok", "claim - - 6 one -=ok",
		"volume u x 1Ti one b -=error 11", "volume v x 1Gi many b -=ok", "volume w x 2Gi one a k=ok",
		"show class=f - 0 -;g - 0 -;h - 0 -;i - 0 -", "show node=m - 0 -;n - 0 -", "show attach=none", "show pod=none",
		"show claim=- pending 0 -;c pending 0 -;d pending 0 -;e pending 0 -;g pending 0 -;i pending 0 -",
		"show volume=v available 1Gi -;w available 2Gi -", "driver=v 1Gi b;w 2Gi a",
		"run 30=ok", // the class of - is not there; g and i wait for a pod
		"show claim=- pending 0 -;c bound 1536Mi pvc/c#7;d bound 2000 pvc/d#8;e bound 3Mi pvc/e#9;g pending 0 -;i pending 0 -",
		"driver=pvc/c#7 1536Mi a;pvc/d#8 2000 a;pvc/e#9 3Mi b;v 1Gi b;w 2Gi a",
		"pod p g=ok", "pod q i=ok", "pod r d=ok", "pod s d=ok", "pod t -=ok", "place p n=ok", "place q m=ok", "place r m=ok", "place s n=ok", "run 60=ok",
		"show pod=p - 0 -;q - 0 -;r - 0 -;s - 0 -;t - 0 -",
		"driver=pvc/c#7 1536Mi a;pvc/d#8 2000 a m n;pvc/e#9 3Mi b;pvc/g#10 4 b n;pvc/i#11 5 a m;v 1Gi b;w 2Gi a",
		"del volume v=ok", "del volume w=ok", "del claim c=ok", "del claim e=ok", "del pod q=ok", "del claim i=ok", "del node m=ok", "del class f=ok", "run 60=ok",
		"show volume=pvc/d#8 bound 2000 -;pvc/e#9 released 3Mi -;pvc/g#10 bound 4 -;pvc/i#11 released 5 -;w available 2Gi -",
		"show class=g - 0 -;h - 0 -;i - 0 -", "show node=n - 0 -")
}

// P16.1: what is - is empty, where the line says so: a class of no zone has none made for it, unless a node tells where.
func TestEmpty(t *testing.T) {
	run(t, "class f - -=ok", "class - - -=ok", "claim c f 1 one -=ok", "claim d - 1 one -=ok", "elect bind 0=ok", "step bind 0 done=ok nothing", "step bind 0 done=ok nothing", "show claim=c pending 0 -;d pending 0 -",
		"snap - c=ok", "claim e f 1 one --=ok", "node - b=ok", "pod - c=ok", "place - -=ok", "run 9=ok", "driver=none", "del node -=ok", "del pod -=ok", "del snap -=ok", "run 9=ok", "show snap=none")
}

// P16.1, P16.2: what steps do, and how far objects are.
func TestSteps(t *testing.T) {
	run(t,
		"class f a -=ok", "node n a=ok", "claim c f 1Gi one -=ok", "pod p c=ok", "place p n=ok", "snap s c=ok",
		"show claim=c pending 0 -", "show snap=s pending 0 -",
		"elect bind 0=ok", "elect attach 0=ok", "elect data 0=ok",
		"step bind 0 done=ok write", "show claim=c creating 0 -",
		"step bind 0 refused=ok ask", "show claim=c pending 0 -", "driver=none",
		"step bind 0 latedone=ok write", "step bind 0 latelost=ok ask", "driver=none", "again 1=ok", "driver=pvc/c#3 1Gi a",
		"step bind 0 done=ok nothing", "crash bind 0=ok", "step bind 0 latedone=ok ask", "show volume=none", "resync bind 0=ok",
		"step bind 0 done=ok ask", "show volume=pvc/c#3 bound 1Gi -", "show claim=c creating 0 -", "step bind 0 done=ok write", "show claim=c bound 1Gi pvc/c#3",
		"step attach 0 done=ok write", "show attach=pvc/c#3/n attaching 0 pvc/c#3", "step attach 0 done=ok ask", "show attach=pvc/c#3/n attached 0 pvc/c#3", "driver=pvc/c#3 1Gi a n",
		"put pvc/c#3 n 7=ok", "put pvc/c#3 m 7=error 10",
		"step data 0 done=ok nothing", "step data 0 done=ok write", "show snap=s cutting 0 pvc/c#3",
		"step data 0 done=ok ask", "show snap=s ready 1Gi pvc/c#3", "driver=pvc/c#3 1Gi a n;snap/s#6 7",
		"grow c 2Gi=ok", "grow c 2Gi=error 3", "resync data 0=ok", "tick 1=ok",
		"step data 0 done=ok write", "step data 0 done=ok nothing", "step data 0 done=ok ask", "show volume=pvc/c#3 bound 2Gi -", "show claim=c bound 1Gi pvc/c#3",
		"step data 0 done=ok write", "show claim=c bound 2Gi pvc/c#3",
		"del pod p=ok", "del claim c=ok", "del snap s=ok",
		"step attach 0 done=ok write", "show attach=pvc/c#3/n detaching 0 pvc/c#3", "step attach 0 done=ok ask", "show attach=none", "driver=pvc/c#3 2Gi a;snap/s#6 7",
		"crash bind 0=ok", "step bind 0 done=ok remove", "show claim=none",
		"crash bind 0=ok", "step bind 0 done=ok write", "show volume=pvc/c#3 erasing 2Gi -", "step bind 0 done=ok ask", "driver=snap/s#6 7",
		"crash data 0=ok", "step data 0 done=ok write", "show snap=s erasing 1Gi pvc/c#3", "step data 0 done=ok ask", "show snap=none", "driver=none",
		"again 0=error 9", "again 999999999=error 3",
		"tick 10=ok", "step bind 0 done=error 8", "elect bind 1=ok", "step bind 1 done=ok nothing", "elect bind 0=error 8", "crash bind 1=ok", "resync attach 1=ok")
}

// P16.1: run lets the first replicas act, so often; others that have the lease keep it till it is over.
func TestRunLine(t *testing.T) {
	run(t, "class f a -=ok", "claim c f 1 one -=ok",
		"run 1=ok", "show claim=c creating 0 -", "run 1=ok", "show volume=pvc/c#2 bound 1 -", "show claim=c creating 0 -", "run 1=ok", "show claim=c bound 1 pvc/c#2",
		"elect bind 1=error 8", "tick 9=ok", "elect bind 1=ok", "claim d f 1 one -=ok",
		"run 10=ok", "run 2=ok", "show claim=c bound 1 pvc/c#2;d pending 0 -", "run 1=ok", "show claim=c bound 1 pvc/c#2;d creating 0 -", "run 200=ok", "elect bind 1=error 8", "tick 8=ok", "elect bind 1=error 8", "tick 1=ok", "elect bind 1=ok")
}

// P16.1: the script of the chapter.
func TestExample(t *testing.T) {
	run(t, "class f a -=ok", "claim c f 1Gi one -=ok", "run 9=ok", "show claim=c bound 1Gi pvc/c#2")
}

// P16.1: a claim of a snapshot has what is in it, though it is not to be seen till that is cut anew.
func TestSource(t *testing.T) {
	run(t, "class f a -=ok", "node n a=ok", "claim c f 1Gi one -=ok", "pod p c=ok", "place p n=ok", "run 20=ok", "put pvc/c#3 n 123456789=ok",
		"snap s c=ok", "run 20=ok", "claim d f 2Gi one s=ok", "run 20=ok", "snap r d=ok", "run 20=ok",
		"driver=pvc/c#3 1Gi a n;pvc/d#14 2Gi a;snap/r#18 123456789;snap/s#11 123456789", "show snap=r ready 2Gi pvc/d#14;s ready 1Gi pvc/c#3")
}
