// Package almanac: a log of short texts that is searched by words: see DOC.md.
package almanac

import "almanac/api"

// Log is a log.
type Log struct{}

// New makes a log of what is on a disk (P8).
func New(c api.Config, d *api.Disk) (*Log, api.Errno) { return nil, api.OK }

// Append lays a text down; its sequence number (P9).
func (l *Log) Append(text string) (int, api.Errno) { return 0, api.OK }

// Tick lets the time go on (P10).
func (l *Log) Tick(n int) api.Errno { return api.OK }

// Query tells the entries that have a word, of some times; how many segments were opened (P11).
func (l *Log) Query(word string, from int, to int) ([]api.Entry, int, api.Errno) {
	return nil, 0, api.OK
}

// Step lets a worker do a step (P12).
func (l *Log) Step(worker int) (int, api.Errno) { return 0, api.OK }

// Levels tells the segments of all levels (P13).
func (l *Log) Levels() [][]api.Shape { return nil }

// Pending tells how many tasks there are (P13).
func (l *Log) Pending() int { return 0 }

// Subscribe makes a tail (P14).
func (l *Log) Subscribe(word string) (int, api.Errno) { return 0, api.OK }

// Poll tells the next entries of a tail (P15).
func (l *Log) Poll(tail int) ([]api.Entry, api.Errno) { return nil, api.OK }

// Unsubscribe ends a tail (P16).
func (l *Log) Unsubscribe(tail int) api.Errno { return api.OK }
